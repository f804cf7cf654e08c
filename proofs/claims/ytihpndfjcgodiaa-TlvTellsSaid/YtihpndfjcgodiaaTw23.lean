/- Joined texts. -/
-- PACK: YtihpndfjcgodiaaWhole
import Derived.Test.YtihpndfjcgodiaaTw17
import Derived.Laws.BitsAllLaws

/- The walks of package whole. -/
namespace Go.Proofs.Ytihpndfjcgodiaa
open Go.RowKit
namespace Whole

theorem i64_or_low (n : Int) (c : Nat) (hc : c < 256) (h1 : -36028797018963968 ≤ n) (h2 : n ≤ 36028797018963967) : bits .or .i64 (n * 256) (c : Int) = n * 256 + (c : Int) := by
  show IntKind.i64.wrap ((BitVec.ofInt 64 (n * 256) ||| BitVec.ofInt 64 (c : Int)).toNat : Int) = _
  rw [BitVec.toNat_or, BitVec.toNat_ofInt, BitVec.toNat_ofInt]
  obtain ⟨q, hq⟩ : ∃ q : Nat, ((n * 256) % ((2 ^ 64 : Nat) : Int)).toNat = 2 ^ 8 * q := ⟨((n * 256) % ((2 ^ 64 : Nat) : Int)).toNat / 2 ^ 8, by omega⟩
  have hcc : ((c : Int) % ((2 ^ 64 : Nat) : Int)).toNat = c := by omega
  rw [hq, hcc, ← Nat.two_pow_add_eq_or_of_lt (i := 8) (by omega), ← hq]
  simp only [IntKind.wrap, IntKind.bits, IntKind.signed]
  have h2p : ((2 ^ 64 : Nat) : Int) = 18446744073709551616 := by decide
  rw [h2p]
  clear hq hcc
  simp
  omega

theorem ret_bool {b c : Bool} (h : b = c) : Ending.returned (.bool b) = Ending.returned (.bool c) := by rw [h]
theorem at0 (s : ByteArray) (h : 0 < s.size) : s.data.toList.getD 0 0 = s[0] := by simp [List.getD, List.getElem?_eq_getElem (show 0 < s.data.toList.length from h)]; rfl
theorem get_at (s : ByteArray) (k : Nat) (h : k < s.size) : s.data.toList[k]? = some s[k] := by rw [List.getElem?_eq_getElem (show k < s.data.toList.length from h)]; rfl
theorem two_list (s : ByteArray) (h : 1 < s.size) : ∃ l, s.data.toList = s[0] :: s[1] :: l := by
  have h0 := get_at s 0 (by omega)
  have h1 := get_at s 1 h
  cases hl : s.data.toList with
  | nil => rw [hl] at h0; simp at h0
  | cons a m =>
    cases m with
    | nil => rw [hl] at h1; simp at h1
    | cons b m =>
      rw [hl] at h0 h1
      simp at h0 h1
      exact ⟨m, by rw [h0, h1]⟩

set_option maxRecDepth 100000 in
set_option maxHeartbeats 1000000 in
theorem right_ret (s : ByteArray) (hm : s.size ≤ 140737488355328) (B : Bool) (hB : B = rightL s.data.toList) : Ret 79 #[.string s] (.bool B) := by
  intro w
  by_cases h0 : s.size = 0
  · obtain rfl : s = ⟨#[]⟩ := ba_ext (List.eq_nil_of_length_eq_zero h0)
    have hB2 : B = false := hB
    subst hB2
    clear hB h0 hm
    go_enter Try.func79, Try.ntmps79
    go_wp2_with fail
    go_ret
    exact ⟨rfl, rfl⟩
  · by_cases h1 : s.size = 1
    · have hB2 : B = true := by
        rw [hB]
        cases hl : s.data.toList with
        | nil => exact absurd (show s.data.toList.length = 0 by rw [hl]; rfl) h0
        | cons a m =>
          cases m with
          | nil => rfl
          | cons b m => have h9 : s.data.toList.length = 1 := h1; rw [hl] at h9; simp at h9
      subst hB2
      have hne := some_bytes s (by omega)
      have hne2 := some_bytes_f s (by omega)
      have hb1 : ((s.size : Int) == 1) = true := by rw [h1]; rfl
      have hlt : s.size < 2 := by omega
      have hge : 1 ≤ s.size := by omega
      clear hB h0 h1
      go_enter Try.func79, Try.ntmps79
      go_wp2_with fail
      go_ret
      exact ⟨rfl, rfl⟩
    · have h2 : 1 < s.size := by omega
      obtain ⟨l, hl⟩ := two_list s h2
      rw [hl] at hB
      have hne2 := some_bytes_f s (by omega)
      have hb1 : ((s.size : Int) == 1) = false := by rw [beq_eq_false_iff_ne]; omega
      have hlt0 := s[0].toNat_lt
      have hlt1 := s[1].toNat_lt
      have hB' : B = (!(decide (s[0].toNat = 0) && decide (s[1].toNat < 128)) && !(decide (s[0].toNat = 255) && decide (128 ≤ s[1].toNat))) := hB
      clear hB hl h0 h1
      by_cases a0 : s[0].toNat = 0
      · have e1 : ((s[0].toNat : Int) == 0) = true := by rw [a0]; rfl
        have e2 : ((s[0].toNat : Int) == 255) = false := by rw [a0]; rfl
        have e3 : ((s[0].toNat : Int) != 255) = true := by rw [a0]; rfl
        by_cases b1 : s[1].toNat < 128
        · have d1 : decide (128 ≤ (s[1].toNat : Int)) = false := by simp; omega
          have hB2 : B = false := by rw [hB']; simp [a0, b1]
          subst hB2
          clear hB' a0
          go_enter Try.func79, Try.ntmps79
          go_wp2_with fail
          go_ret
          exact ⟨by first | rfl | exact ret_bool (by simp; omega), rfl⟩
        · have d1 : decide (128 ≤ (s[1].toNat : Int)) = true := by simp; omega
          have hB2 : B = true := by rw [hB']; simp [a0, b1]
          subst hB2
          clear hB' a0
          go_enter Try.func79, Try.ntmps79
          go_wp2_with fail
          go_ret
          exact ⟨by first | rfl | exact ret_bool (by simp; omega), rfl⟩
      · have e1 : ((s[0].toNat : Int) == 0) = false := by rw [beq_eq_false_iff_ne]; omega
        by_cases a2 : s[0].toNat = 255
        · have e2 : ((s[0].toNat : Int) == 255) = true := by rw [a2]; rfl
          have e3 : ((s[0].toNat : Int) != 255) = false := by rw [a2]; rfl
          by_cases b1 : s[1].toNat < 128
          · have d1 : decide (128 ≤ (s[1].toNat : Int)) = false := by simp; omega
            have hB2 : B = true := by rw [hB']; simp [a2]; omega
            subst hB2
            clear hB' a0 a2
            go_enter Try.func79, Try.ntmps79
            go_wp2_with fail
            go_ret
            exact ⟨by first | rfl | exact ret_bool (by simp; omega), rfl⟩
          · have d1 : decide (128 ≤ (s[1].toNat : Int)) = true := by simp; omega
            have hB2 : B = false := by rw [hB']; simp [a2]; omega
            subst hB2
            clear hB' a0 a2
            go_enter Try.func79, Try.ntmps79
            go_wp2_with fail
            go_ret
            exact ⟨by first | rfl | exact ret_bool (by simp; omega), rfl⟩
        · have e2 : ((s[0].toNat : Int) == 255) = false := by rw [beq_eq_false_iff_ne]; omega
          have e3 : ((s[0].toNat : Int) != 255) = true := by rw [bne_iff_ne]; omega
          have hB2 : B = true := by rw [hB']; simp [a0, a2]
          subst hB2
          clear hB' a0 a2
          go_enter Try.func79, Try.ntmps79
          go_wp2_with fail
          go_ret
          exact ⟨by first | rfl | exact ret_bool (by simp; omega), rfl⟩

set_option maxRecDepth 100000 in
set_option maxHeartbeats 1000000 in
theorem rright_ret (s : ByteArray) (hm : s.size ≤ 140737488355328) (B : Bool) (hB : B = rightL s.data.toList) : Ret 85 #[.string s] (.bool B) := by
  intro w
  by_cases h0 : s.size = 0
  · obtain rfl : s = ⟨#[]⟩ := ba_ext (List.eq_nil_of_length_eq_zero h0)
    have hB2 : B = false := hB
    subst hB2
    clear hB h0 hm
    go_enter Try.func85, Try.ntmps85
    go_wp2_with fail
    go_ret
    exact ⟨rfl, rfl⟩
  · by_cases h1 : s.size = 1
    · have hB2 : B = true := by
        rw [hB]
        cases hl : s.data.toList with
        | nil => exact absurd (show s.data.toList.length = 0 by rw [hl]; rfl) h0
        | cons a m =>
          cases m with
          | nil => rfl
          | cons b m => have h9 : s.data.toList.length = 1 := h1; rw [hl] at h9; simp at h9
      subst hB2
      have hne := some_bytes s (by omega)
      have hne2 := some_bytes_f s (by omega)
      have hb1 : ((s.size : Int) == 1) = true := by rw [h1]; rfl
      have hlt : s.size < 2 := by omega
      have hge : 1 ≤ s.size := by omega
      clear hB h0 h1
      go_enter Try.func85, Try.ntmps85
      go_wp2_with fail
      go_ret
      exact ⟨rfl, rfl⟩
    · have h2 : 1 < s.size := by omega
      obtain ⟨l, hl⟩ := two_list s h2
      rw [hl] at hB
      have hne2 := some_bytes_f s (by omega)
      have hb1 : ((s.size : Int) == 1) = false := by rw [beq_eq_false_iff_ne]; omega
      have hlt0 := s[0].toNat_lt
      have hlt1 := s[1].toNat_lt
      have hB' : B = (!(decide (s[0].toNat = 0) && decide (s[1].toNat < 128)) && !(decide (s[0].toNat = 255) && decide (128 ≤ s[1].toNat))) := hB
      clear hB hl h0 h1
      by_cases a0 : s[0].toNat = 0
      · have e1 : ((s[0].toNat : Int) == 0) = true := by rw [a0]; rfl
        have e2 : ((s[0].toNat : Int) == 255) = false := by rw [a0]; rfl
        have e3 : ((s[0].toNat : Int) != 255) = true := by rw [a0]; rfl
        by_cases b1 : s[1].toNat < 128
        · have d1 : decide (128 ≤ (s[1].toNat : Int)) = false := by simp; omega
          have hB2 : B = false := by rw [hB']; simp [a0, b1]
          subst hB2
          clear hB' a0
          go_enter Try.func85, Try.ntmps85
          go_wp2_with fail
          go_ret
          exact ⟨by first | rfl | exact ret_bool (by simp; omega), rfl⟩
        · have d1 : decide (128 ≤ (s[1].toNat : Int)) = true := by simp; omega
          have hB2 : B = true := by rw [hB']; simp [a0, b1]
          subst hB2
          clear hB' a0
          go_enter Try.func85, Try.ntmps85
          go_wp2_with fail
          go_ret
          exact ⟨by first | rfl | exact ret_bool (by simp; omega), rfl⟩
      · have e1 : ((s[0].toNat : Int) == 0) = false := by rw [beq_eq_false_iff_ne]; omega
        by_cases a2 : s[0].toNat = 255
        · have e2 : ((s[0].toNat : Int) == 255) = true := by rw [a2]; rfl
          have e3 : ((s[0].toNat : Int) != 255) = false := by rw [a2]; rfl
          by_cases b1 : s[1].toNat < 128
          · have d1 : decide (128 ≤ (s[1].toNat : Int)) = false := by simp; omega
            have hB2 : B = true := by rw [hB']; simp [a2]; omega
            subst hB2
            clear hB' a0 a2
            go_enter Try.func85, Try.ntmps85
            go_wp2_with fail
            go_ret
            exact ⟨by first | rfl | exact ret_bool (by simp; omega), rfl⟩
          · have d1 : decide (128 ≤ (s[1].toNat : Int)) = true := by simp; omega
            have hB2 : B = false := by rw [hB']; simp [a2]; omega
            subst hB2
            clear hB' a0 a2
            go_enter Try.func85, Try.ntmps85
            go_wp2_with fail
            go_ret
            exact ⟨by first | rfl | exact ret_bool (by simp; omega), rfl⟩
        · have e2 : ((s[0].toNat : Int) == 255) = false := by rw [beq_eq_false_iff_ne]; omega
          have e3 : ((s[0].toNat : Int) != 255) = true := by rw [bne_iff_ne]; omega
          have hB2 : B = true := by rw [hB']; simp [a0, a2]
          subst hB2
          clear hB' a0 a2
          go_enter Try.func85, Try.ntmps85
          go_wp2_with fail
          go_ret
          exact ⟨by first | rfl | exact ret_bool (by simp; omega), rfl⟩


def decB (l : List UInt8) : Bool := rightL l && decide (l.length ≤ 8)
def decV (l : List UInt8) : Int := if decB l = true then sgn l else 0

theorem low_drop (u : Int) (j : Nat) : (bs (RefOct.low u (j + 1))).extract 1 (bs (RefOct.low u (j + 1))).size = bs (RefOct.low u j) := by
  apply ba_ext
  rw [ext_list, list_bs, list_bs, low_at, List.drop_succ_cons, List.drop_zero, List.take_of_length_le (by rw [size_bs, List.length_cons]; omega)]

theorem wrap_u64 (n : Int) : IntKind.u64.wrap n = n % 18446744073709551616 := by simp [IntKind.wrap, IntKind.bits, IntKind.signed]

theorem fits_of (n : Int) (j : Nat) (h1 : -9223372036854775808 ≤ n) (h2 : n ≤ 9223372036854775807) (hj : wid n ≤ j) (hj8 : j ≤ 8) : fits n j := (wid_le n j (Nat.le_trans (wid_bd n).1 hj) hj8 ⟨h1, h2⟩).1 hj
theorem not_fits (n : Int) (j : Nat) (h1 : -9223372036854775808 ≤ n) (h2 : n ≤ 9223372036854775807) (hj : j < wid n) (hj1 : 1 ≤ j) : ¬ fits n j := fun h => Nat.lt_irrefl _ (Nat.lt_of_lt_of_le hj ((wid_le n j hj1 (by have := (wid_bd n).2; omega) ⟨h1, h2⟩).2 h))

/-- the contents of a number that is not below 0 -/
def bigT (t : List UInt8) : List UInt8 := match t with | [] => [0] | x :: l => if 128 ≤ x.toNat then 0 :: x :: l else x :: l
def bigL (l : List UInt8) : List UInt8 := bigT (Oct.trimL l)

theorem trimL_size (s : ByteArray) : (bs (Oct.trimL s.data.toList)).size ≤ s.size := by
  rw [size_bs]
  exact (List.dropWhile_sublist (fun x : UInt8 => x == 0) (l := s.data.toList)).length_le

end Whole
end Go.Proofs.Ytihpndfjcgodiaa
