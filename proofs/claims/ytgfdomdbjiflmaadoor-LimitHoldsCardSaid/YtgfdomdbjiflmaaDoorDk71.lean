/- Joined texts. -/
-- PACK: YtgfdomdbjiflmaaDoorOptPad
import Derived.Test.YtgfdomdbjiflmaaDoorDk54
import Derived.Test.YtgfdomdbjiflmaaDoorDk57

/- Package option and its reference: Padding. -/
namespace Go.Proofs.YtgfdomdbjiflmaaDoor
open Go.RowKit
namespace Opt
def padM (n : Int) : Nat := ((28 - n % 16) % 16).toNat
def zerosB (m : Nat) : ByteArray := bs (List.replicate m 48)
/-- the option that pads -/
def padV (n : Int) : ByteArray := if n < 0 ∨ n % 16 = 0 then ⟨#[]⟩ else enc ⟨#[80, 66]⟩ (zerosB (padM n))
theorem zerosB_size (m : Nat) : (zerosB m).size = m := by unfold zerosB; rw [size_bs, List.length_replicate]
theorem padM_lt (n : Int) : padM n < 16 := by unfold padM; omega
theorem may_pad (m : Nat) (h : m < 16) : may ⟨#[80, 66]⟩ (zerosB m) = true := by
  have h0 : ∀ m, m < 16 → may ⟨#[80, 66]⟩ (zerosB m) = true := by decide +kernel
  exact h0 m h
theorem zerosB_snoc (k : Nat) : zerosB k ++ ⟨#[48]⟩ = zerosB (k + 1) := by
  apply ba_ext
  unfold zerosB
  rw [app_list, list_bs, list_bs, List.replicate_succ']
set_option maxRecDepth 100000 in
theorem pad_none (n : Int) (h : n < 0 ∨ n % 16 = 0) (h9 : -9223372036854775808 ≤ n) (h8 : n ≤ 1099511627776) : Ret 137 #[.int .i64 n] (.string ⟨#[]⟩) := by
  intro w
  by_cases h1 : n < 0
  · have t1 : decide (n < 0) = true := decide_eq_true h1
    clear h
    go_enter Tryd.func137, Tryd.ntmps137
    go_wp2_with fail
    go_ret
    exact ⟨rfl, rfl⟩
  · have t1 : decide (n < 0) = false := decide_eq_false h1
    have t2 : (n % 16 == 0) = true := beq_iff_eq.2 (by omega)
    have h0 : 0 ≤ n := by omega
    clear h
    go_enter Tryd.func137, Tryd.ntmps137
    go_wp2_with fail
    go_ret
    exact ⟨rfl, rfl⟩
set_option maxRecDepth 100000 in
theorem pad_some (n : Int) (r m : Nat) (h0 : 0 ≤ n) (h8 : n ≤ 1099511627776) (hr : n % 16 = (r : Int)) (hr1 : 1 ≤ r) (_hr2 : r < 16) (hm : m = (28 - r) % 16) (D X : ByteArray)
    (c1 : Mak 155 #[.string ⟨#[48]⟩, .int .i64 (m : Int)] (.string D)) (c2 : Mak 135 #[.agg #[.string ⟨#[80, 66]⟩, .string D]] (.tuple #[.string X, .int .i64 0])) : Mak 137 #[.int .i64 n] (.string X) := by
  intro w
  have HS := Lib.hid (Since.refl w)
  have t1 : decide (n < 0) = false := decide_eq_false (by omega)
  have t2 : ((r : Int) == 0) = false := by rw [beq_eq_false_iff_ne]; omega
  have e1 : (32 - (r : Int) - 4) % 16 = (m : Int) := by omega
  clear hm
  go_enter Tryd.func137, Tryd.ntmps137
  go_wp2_with fail
  repeat (first
    | (with_reducible refine c1.calls HS.out ?_; intro wz hz; replace HS := Lib.hid hz; clear hz; try go_wp2_with fail)
    | (with_reducible refine c2.calls HS.out ?_; intro wz hz; replace HS := Lib.hid hz; clear hz; try go_wp2_with fail))
  go_ret
  exact ⟨rfl, HS.out⟩
set_option maxRecDepth 100000 in
theorem padding_mak (n : Int) (h9 : -9223372036854775808 ≤ n) (h8 : n ≤ 1099511627776) (X : ByteArray) (hX : X = padV n) : Mak 137 #[.int .i64 n] (.string X) := by
  subst hX
  unfold padV
  by_cases h : n < 0 ∨ n % 16 = 0
  · rw [if_pos h]; exact (pad_none n h h9 h8).mak
  · rw [if_neg h]
    obtain ⟨r, hr⟩ : ∃ r : Nat, n % 16 = (r : Int) := ⟨(n % 16).toNat, by omega⟩
    have hm : padM n = (28 - r) % 16 := by unfold padM; omega
    have hlt := padM_lt n
    have c1 : Mak 155 #[.string ⟨#[48]⟩, .int .i64 (padM n : Int)] (.string (zerosB (padM n))) := fun w => by
      have h := Tryd.strings_Repeat ⟨#[48]⟩ (padM n) w (by omega) (by show 1 * _ ≤ _; omega)
      have e : Lib.repeatL (⟨#[48]⟩ : ByteArray).data.toList (padM n) = List.replicate (padM n) 48 := by
        have := Lib.repeatL_replicate 48 1 (padM n)
        rw [Nat.mul_one] at this
        exact this
      rw [e] at h
      exact h
    have hmay := may_pad (padM n) hlt
    have c2 := encode_mak ⟨#[80, 66]⟩ (zerosB (padM n)) (by decide) (by rw [zerosB_size]; omega) (enc ⟨#[80, 66]⟩ (zerosB (padM n))) 0 (by unfold encX; rw [hmay]; rfl) (by unfold encE; rw [hmay]; rfl)
    exact pad_some n r (padM n) (by omega) h8 hr (by omega) (by omega) hm _ _ c1 c2
end Opt
end Go.Proofs.YtgfdomdbjiflmaaDoor
