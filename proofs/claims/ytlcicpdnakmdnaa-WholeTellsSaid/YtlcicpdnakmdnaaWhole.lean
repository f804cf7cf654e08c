/- The walks of package whole. -/
import Derived.Test.YtlcicpdnakmdnaaWholeM
import Derived.Test.YtlcicpdnakmdnaaJoin2
import Derived.Test.YtlcicpdnakmdnaaRefOct3
import Derived.Laws.BitsAllLaws
namespace Go.Proofs.Ytlcicpdnakmdnaa
open Go.RowKit
namespace Whole

theorem i64_or_low (n : Int) (c : Nat) (hc : c < 256) (h1 : -36028797018963968 ≤ n) (h2 : n ≤ 36028797018963967) : bits .or .i64 (n * 256) (c : Int) = n * 256 + (c : Int) := by
  show IntKind.i64.wrap ((BitVec.ofInt 64 (n * 256) ||| BitVec.ofInt 64 (c : Int)).toNat : Int) = _
  rw [BitVec.toNat_or, BitVec.toNat_ofInt, BitVec.toNat_ofInt]
  obtain ⟨q, hq⟩ : ∃ q : Nat, ((n * 256) % ((2 ^ 64 : Nat) : Int)).toNat = 2 ^ 8 * q := ⟨((n * 256) % ((2 ^ 64 : Nat) : Int)).toNat / 2 ^ 8, by omega⟩
  have hcc : ((c : Int) % ((2 ^ 64 : Nat) : Int)).toNat = c := by omega
  rw [hq, hcc, ← Nat.two_pow_add_eq_or_of_lt (i := 8) (by omega), ← hq]
  simp only [IntKind.wrap, IntKind.bits, IntKind.signed]
  have h2p : ((2 ^ 64 : Nat) : Int) = 18446744073709551616 := by decide
  rw [h2p]
  clear hq hcc
  simp
  omega

theorem ret_bool {b c : Bool} (h : b = c) : Ending.returned (.bool b) = Ending.returned (.bool c) := by rw [h]
theorem at0 (s : ByteArray) (h : 0 < s.size) : s.data.toList.getD 0 0 = s[0] := by simp [List.getD, List.getElem?_eq_getElem (show 0 < s.data.toList.length from h)]; rfl
theorem get_at (s : ByteArray) (k : Nat) (h : k < s.size) : s.data.toList[k]? = some s[k] := by rw [List.getElem?_eq_getElem (show k < s.data.toList.length from h)]; rfl
theorem two_list (s : ByteArray) (h : 1 < s.size) : ∃ l, s.data.toList = s[0] :: s[1] :: l := by
  have h0 := get_at s 0 (by omega)
  have h1 := get_at s 1 h
  cases hl : s.data.toList with
  | nil => rw [hl] at h0; simp at h0
  | cons a m =>
    cases m with
    | nil => rw [hl] at h1; simp at h1
    | cons b m =>
      rw [hl] at h0 h1
      simp at h0 h1
      exact ⟨m, by rw [h0, h1]⟩

set_option maxRecDepth 100000 in
set_option maxHeartbeats 1000000 in
theorem right_ret (s : ByteArray) (hm : s.size ≤ 140737488355328) (B : Bool) (hB : B = rightL s.data.toList) : Ret 21 #[.string s] (.bool B) := by
  intro w
  by_cases h0 : s.size = 0
  · obtain rfl : s = ⟨#[]⟩ := ba_ext (List.eq_nil_of_length_eq_zero h0)
    have hB2 : B = false := hB
    subst hB2
    clear hB h0 hm
    go_enter Try.func21, Try.ntmps21
    go_wp2_with fail
    go_ret
    exact ⟨rfl, rfl⟩
  · by_cases h1 : s.size = 1
    · have hB2 : B = true := by
        rw [hB]
        cases hl : s.data.toList with
        | nil => exact absurd (show s.data.toList.length = 0 by rw [hl]; rfl) h0
        | cons a m =>
          cases m with
          | nil => rfl
          | cons b m => have h9 : s.data.toList.length = 1 := h1; rw [hl] at h9; simp at h9
      subst hB2
      have hne := some_bytes s (by omega)
      have hne2 := some_bytes_f s (by omega)
      have hb1 : ((s.size : Int) == 1) = true := by rw [h1]; rfl
      have hlt : s.size < 2 := by omega
      have hge : 1 ≤ s.size := by omega
      clear hB h0 h1
      go_enter Try.func21, Try.ntmps21
      go_wp2_with fail
      go_ret
      exact ⟨rfl, rfl⟩
    · have h2 : 1 < s.size := by omega
      obtain ⟨l, hl⟩ := two_list s h2
      rw [hl] at hB
      have hne2 := some_bytes_f s (by omega)
      have hb1 : ((s.size : Int) == 1) = false := by rw [beq_eq_false_iff_ne]; omega
      have hlt0 := s[0].toNat_lt
      have hlt1 := s[1].toNat_lt
      have hB' : B = (!(decide (s[0].toNat = 0) && decide (s[1].toNat < 128)) && !(decide (s[0].toNat = 255) && decide (128 ≤ s[1].toNat))) := hB
      clear hB hl h0 h1
      by_cases a0 : s[0].toNat = 0
      · have e1 : ((s[0].toNat : Int) == 0) = true := by rw [a0]; rfl
        have e2 : ((s[0].toNat : Int) == 255) = false := by rw [a0]; rfl
        have e3 : ((s[0].toNat : Int) != 255) = true := by rw [a0]; rfl
        by_cases b1 : s[1].toNat < 128
        · have d1 : decide (128 ≤ (s[1].toNat : Int)) = false := by simp; omega
          have hB2 : B = false := by rw [hB']; simp [a0, b1]
          subst hB2
          clear hB' a0
          go_enter Try.func21, Try.ntmps21
          go_wp2_with fail
          go_ret
          exact ⟨by first | rfl | exact ret_bool (by simp; omega), rfl⟩
        · have d1 : decide (128 ≤ (s[1].toNat : Int)) = true := by simp; omega
          have hB2 : B = true := by rw [hB']; simp [a0, b1]
          subst hB2
          clear hB' a0
          go_enter Try.func21, Try.ntmps21
          go_wp2_with fail
          go_ret
          exact ⟨by first | rfl | exact ret_bool (by simp; omega), rfl⟩
      · have e1 : ((s[0].toNat : Int) == 0) = false := by rw [beq_eq_false_iff_ne]; omega
        by_cases a2 : s[0].toNat = 255
        · have e2 : ((s[0].toNat : Int) == 255) = true := by rw [a2]; rfl
          have e3 : ((s[0].toNat : Int) != 255) = false := by rw [a2]; rfl
          by_cases b1 : s[1].toNat < 128
          · have d1 : decide (128 ≤ (s[1].toNat : Int)) = false := by simp; omega
            have hB2 : B = true := by rw [hB']; simp [a2]; omega
            subst hB2
            clear hB' a0 a2
            go_enter Try.func21, Try.ntmps21
            go_wp2_with fail
            go_ret
            exact ⟨by first | rfl | exact ret_bool (by simp; omega), rfl⟩
          · have d1 : decide (128 ≤ (s[1].toNat : Int)) = true := by simp; omega
            have hB2 : B = false := by rw [hB']; simp [a2]; omega
            subst hB2
            clear hB' a0 a2
            go_enter Try.func21, Try.ntmps21
            go_wp2_with fail
            go_ret
            exact ⟨by first | rfl | exact ret_bool (by simp; omega), rfl⟩
        · have e2 : ((s[0].toNat : Int) == 255) = false := by rw [beq_eq_false_iff_ne]; omega
          have e3 : ((s[0].toNat : Int) != 255) = true := by rw [bne_iff_ne]; omega
          have hB2 : B = true := by rw [hB']; simp [a0, a2]
          subst hB2
          clear hB' a0 a2
          go_enter Try.func21, Try.ntmps21
          go_wp2_with fail
          go_ret
          exact ⟨by first | rfl | exact ret_bool (by simp; omega), rfl⟩

set_option maxRecDepth 100000 in
set_option maxHeartbeats 1000000 in
theorem rright_ret (s : ByteArray) (hm : s.size ≤ 140737488355328) (B : Bool) (hB : B = rightL s.data.toList) : Ret 22 #[.string s] (.bool B) := by
  intro w
  by_cases h0 : s.size = 0
  · obtain rfl : s = ⟨#[]⟩ := ba_ext (List.eq_nil_of_length_eq_zero h0)
    have hB2 : B = false := hB
    subst hB2
    clear hB h0 hm
    go_enter Try.func22, Try.ntmps22
    go_wp2_with fail
    go_ret
    exact ⟨rfl, rfl⟩
  · by_cases h1 : s.size = 1
    · have hB2 : B = true := by
        rw [hB]
        cases hl : s.data.toList with
        | nil => exact absurd (show s.data.toList.length = 0 by rw [hl]; rfl) h0
        | cons a m =>
          cases m with
          | nil => rfl
          | cons b m => have h9 : s.data.toList.length = 1 := h1; rw [hl] at h9; simp at h9
      subst hB2
      have hne := some_bytes s (by omega)
      have hne2 := some_bytes_f s (by omega)
      have hb1 : ((s.size : Int) == 1) = true := by rw [h1]; rfl
      have hlt : s.size < 2 := by omega
      have hge : 1 ≤ s.size := by omega
      clear hB h0 h1
      go_enter Try.func22, Try.ntmps22
      go_wp2_with fail
      go_ret
      exact ⟨rfl, rfl⟩
    · have h2 : 1 < s.size := by omega
      obtain ⟨l, hl⟩ := two_list s h2
      rw [hl] at hB
      have hne2 := some_bytes_f s (by omega)
      have hb1 : ((s.size : Int) == 1) = false := by rw [beq_eq_false_iff_ne]; omega
      have hlt0 := s[0].toNat_lt
      have hlt1 := s[1].toNat_lt
      have hB' : B = (!(decide (s[0].toNat = 0) && decide (s[1].toNat < 128)) && !(decide (s[0].toNat = 255) && decide (128 ≤ s[1].toNat))) := hB
      clear hB hl h0 h1
      by_cases a0 : s[0].toNat = 0
      · have e1 : ((s[0].toNat : Int) == 0) = true := by rw [a0]; rfl
        have e2 : ((s[0].toNat : Int) == 255) = false := by rw [a0]; rfl
        have e3 : ((s[0].toNat : Int) != 255) = true := by rw [a0]; rfl
        by_cases b1 : s[1].toNat < 128
        · have d1 : decide (128 ≤ (s[1].toNat : Int)) = false := by simp; omega
          have hB2 : B = false := by rw [hB']; simp [a0, b1]
          subst hB2
          clear hB' a0
          go_enter Try.func22, Try.ntmps22
          go_wp2_with fail
          go_ret
          exact ⟨by first | rfl | exact ret_bool (by simp; omega), rfl⟩
        · have d1 : decide (128 ≤ (s[1].toNat : Int)) = true := by simp; omega
          have hB2 : B = true := by rw [hB']; simp [a0, b1]
          subst hB2
          clear hB' a0
          go_enter Try.func22, Try.ntmps22
          go_wp2_with fail
          go_ret
          exact ⟨by first | rfl | exact ret_bool (by simp; omega), rfl⟩
      · have e1 : ((s[0].toNat : Int) == 0) = false := by rw [beq_eq_false_iff_ne]; omega
        by_cases a2 : s[0].toNat = 255
        · have e2 : ((s[0].toNat : Int) == 255) = true := by rw [a2]; rfl
          have e3 : ((s[0].toNat : Int) != 255) = false := by rw [a2]; rfl
          by_cases b1 : s[1].toNat < 128
          · have d1 : decide (128 ≤ (s[1].toNat : Int)) = false := by simp; omega
            have hB2 : B = true := by rw [hB']; simp [a2]; omega
            subst hB2
            clear hB' a0 a2
            go_enter Try.func22, Try.ntmps22
            go_wp2_with fail
            go_ret
            exact ⟨by first | rfl | exact ret_bool (by simp; omega), rfl⟩
          · have d1 : decide (128 ≤ (s[1].toNat : Int)) = true := by simp; omega
            have hB2 : B = false := by rw [hB']; simp [a2]; omega
            subst hB2
            clear hB' a0 a2
            go_enter Try.func22, Try.ntmps22
            go_wp2_with fail
            go_ret
            exact ⟨by first | rfl | exact ret_bool (by simp; omega), rfl⟩
        · have e2 : ((s[0].toNat : Int) == 255) = false := by rw [beq_eq_false_iff_ne]; omega
          have e3 : ((s[0].toNat : Int) != 255) = true := by rw [bne_iff_ne]; omega
          have hB2 : B = true := by rw [hB']; simp [a0, a2]
          subst hB2
          clear hB' a0 a2
          go_enter Try.func22, Try.ntmps22
          go_wp2_with fail
          go_ret
          exact ⟨by first | rfl | exact ret_bool (by simp; omega), rfl⟩


def decB (l : List UInt8) : Bool := rightL l && decide (l.length ≤ 8)
def decV (l : List UInt8) : Int := if decB l = true then sgn l else 0

set_option maxRecDepth 100000 in
set_option maxHeartbeats 2000000 in
theorem dec_ret (s : ByteArray) (hm : s.size ≤ 140737488355328) (B : Bool) (V : Int) (hB : B = decB s.data.toList) (hV : V = decV s.data.toList) : Ret 17 #[.string s] (.tuple #[.int .i64 V, .bool B]) := by
  intro w
  by_cases hr : rightL s.data.toList = false
  · have hB2 : B = false := by rw [hB]; unfold decB; rw [hr]; rfl
    have hV2 : V = 0 := by rw [hV]; unfold decV; rw [← hB, hB2]; rfl
    have c1 := right_ret s hm false hr.symm
    subst hB2 hV2
    clear hB hV hr
    go_enter Try.func17, Try.ntmps17
    go_wp2_with fail
    refine (c1).calls ?_
    go_wp2_with fail
    go_ret2
    exact ⟨rfl, rfl⟩
  · have hr2 : rightL s.data.toList = true := by cases h : rightL s.data.toList with
      | true => rfl
      | false => exact absurd h hr
    have c1 := right_ret s hm true hr2.symm
    by_cases h8 : s.size ≤ 8
    · have hB2 : B = true := by rw [hB]; unfold decB; rw [hr2, decide_eq_true (show s.data.toList.length ≤ 8 from h8)]; rfl
      have hV2 : V = sgn s.data.toList := by rw [hV]; unfold decV; rw [← hB, hB2]; rfl
      have h1 : 1 ≤ s.size := by
        apply Classical.byContradiction
        intro h
        have h0 : s.data.toList = [] := List.eq_nil_of_length_eq_zero (by have h9 : s.size = s.data.toList.length := rfl; omega)
        rw [h0] at hr2
        cases hr2
      subst hB2
      have hx := get_at s 0 (by omega)
      have h0lt := s[0].toNat_lt
      have hgd := at0 s (by omega)
      clear hB hV hr hr2
      have hst : ∃ q0 : Int, q0 = sg s.data.toList 0 ∧ (128 ≤ s[0].toNat ∧ q0 = -1 ∨ s[0].toNat < 128 ∧ q0 = 0) := ⟨_, rfl, by rw [sg_zero, hgd]; split <;> omega⟩
      obtain ⟨q0, hq0, hst⟩ := hst
      have Hq0 := Lib.hid hq0
      have Hx := Lib.hid hx
      clear hx
      have Hgd := Lib.hid hgd
      clear hgd
      have HV2 := Lib.hid hV2
      clear hV2
      clear hq0
      rcases hst with ⟨hs1, rfl⟩ | ⟨hs1, rfl⟩
      all_goals
        go_enter Try.func17, Try.ntmps17
        go_wp2_with fail
        refine (c1).calls ?_
        go_wp2_with fail
        go_loop [4, 19] (fun n i => ∃ (k : Nat) (q : Int), k ≤ s.size ∧ i = .int .i64 (k : Int) ∧ n = .int .i64 q ∧ Hid (q = sg s.data.toList k)) (fun _ i => s.size - (intOf i).toNat)
        case atStart => exact ⟨0, _, Nat.zero_le _, rfl, rfl, Hq0⟩
        case round =>
          obtain ⟨k, q, hk, rfl, rfl, HQ⟩ := hrel
          by_cases hlt : k < s.size
          · obtain ⟨hq1, hq2⟩ := sg_small s.data.toList k hlt (by omega)
            rw [← HQ.out] at hq1 hq2
            have hn := sg_succ s.data.toList k _ (get_at s k hlt)
            have hc := s[k].toNat_lt
            have ho := i64_or_low q s[k].toNat hc hq1 hq2
            rw [← HQ.out] at hn
            have Hn := Lib.hid hn
            clear hn
            have Ho := Lib.hid ho
            clear ho
            go_wp2_with fail
            go_round
            case rel => exact ⟨k + 1, _, by omega, by go_num, rfl, Lib.hid (by first | (rw [Hn.out, Ho.out]; omega) | (rw [Hn.out, ← Int.mul_comm, Ho.out]))⟩
            case measure => simp [intOf]; omega
          · have hkv : q = V := by rw [HV2.out, HQ.out, show k = s.data.toList.length from by have h9 : s.size = s.data.toList.length := rfl; omega]; rfl
            subst hkv
            go_wp2_with fail
            go_ret2
            exact ⟨rfl, rfl⟩
    · have hB2 : B = false := by rw [hB]; unfold decB; rw [decide_eq_false (show ¬ s.data.toList.length ≤ 8 from h8), Bool.and_false]
      have hV2 : V = 0 := by rw [hV]; unfold decV; rw [← hB, hB2]; rfl
      subst hB2 hV2
      have h9 : 8 < s.size := by omega
      clear hB hV hr hr2 h8
      go_enter Try.func17, Try.ntmps17
      go_wp2_with fail
      refine (c1).calls ?_
      go_wp2_with fail
      go_ret2
      exact ⟨rfl, rfl⟩

set_option maxRecDepth 100000 in
set_option maxHeartbeats 2000000 in
theorem rdec_ret (s : ByteArray) (hm : s.size ≤ 140737488355328) (B : Bool) (V : Int) (hB : B = decB s.data.toList) (hV : V = decV s.data.toList) : Ret 18 #[.string s] (.tuple #[.int .i64 V, .bool B]) := by
  intro w
  by_cases hr : rightL s.data.toList = false
  · have hB2 : B = false := by rw [hB]; unfold decB; rw [hr]; rfl
    have hV2 : V = 0 := by rw [hV]; unfold decV; rw [← hB, hB2]; rfl
    have c1 := rright_ret s hm false hr.symm
    subst hB2 hV2
    clear hB hV hr
    go_enter Try.func18, Try.ntmps18
    go_wp2_with fail
    refine (c1).calls ?_
    go_wp2_with fail
    go_ret2
    exact ⟨rfl, rfl⟩
  · have hr2 : rightL s.data.toList = true := by cases h : rightL s.data.toList with
      | true => rfl
      | false => exact absurd h hr
    have c1 := rright_ret s hm true hr2.symm
    by_cases h8 : s.size ≤ 8
    · have hB2 : B = true := by rw [hB]; unfold decB; rw [hr2, decide_eq_true (show s.data.toList.length ≤ 8 from h8)]; rfl
      have hV2 : V = sgn s.data.toList := by rw [hV]; unfold decV; rw [← hB, hB2]; rfl
      have h1 : 1 ≤ s.size := by
        apply Classical.byContradiction
        intro h
        have h0 : s.data.toList = [] := List.eq_nil_of_length_eq_zero (by have h9 : s.size = s.data.toList.length := rfl; omega)
        rw [h0] at hr2
        cases hr2
      subst hB2
      have hx := get_at s 0 (by omega)
      have h0lt := s[0].toNat_lt
      have hgd := at0 s (by omega)
      clear hB hV hr hr2
      have hst : ∃ q0 : Int, q0 = sg s.data.toList 1 ∧ (127 < s[0].toNat ∧ q0 = (s[0].toNat : Int) - 256 ∨ s[0].toNat ≤ 127 ∧ q0 = (s[0].toNat : Int)) := ⟨_, rfl, by rw [sg_one _ _ hx]; split <;> omega⟩
      obtain ⟨q0, hq0, hst⟩ := hst
      have Hq0 := Lib.hid hq0
      have Hx := Lib.hid hx
      clear hx
      have Hgd := Lib.hid hgd
      clear hgd
      have HV2 := Lib.hid hV2
      clear hV2
      clear hq0
      rcases hst with ⟨hs1, rfl⟩ | ⟨hs1, rfl⟩
      all_goals
        go_enter Try.func18, Try.ntmps18
        go_wp2_with fail
        refine (c1).calls ?_
        go_wp2_with fail
        go_loop [4, 5] (fun n i => ∃ (k : Nat) (q : Int), 1 ≤ k ∧ k ≤ s.size ∧ i = .int .i64 (k : Int) ∧ n = .int .i64 q ∧ Hid (q = sg s.data.toList k)) (fun _ i => s.size - (intOf i).toNat)
        case atStart => exact ⟨1, _, by omega, h1, rfl, rfl, Hq0⟩
        case round =>
          obtain ⟨k, q, hk1, hk, rfl, rfl, HQ⟩ := hrel
          by_cases hlt : k < s.size
          · obtain ⟨hq1, hq2⟩ := sg_small s.data.toList k hlt (by omega)
            rw [← HQ.out] at hq1 hq2
            have hn := sg_succ s.data.toList k _ (get_at s k hlt)
            have hc := s[k].toNat_lt
            rw [← HQ.out] at hn
            have Hn := Lib.hid hn
            clear hn
            go_wp2_with fail
            go_round
            case rel => exact ⟨k + 1, _, by omega, by omega, by go_num, rfl, Lib.hid (by rw [Hn.out])⟩
            case measure => simp [intOf]; omega
          · have hkv : q = V := by rw [HV2.out, HQ.out, show k = s.data.toList.length from by have h9 : s.size = s.data.toList.length := rfl; omega]; rfl
            subst hkv
            go_wp2_with fail
            go_ret2
            exact ⟨rfl, rfl⟩
    · have hB2 : B = false := by rw [hB]; unfold decB; rw [decide_eq_false (show ¬ s.data.toList.length ≤ 8 from h8), Bool.and_false]
      have hV2 : V = 0 := by rw [hV]; unfold decV; rw [← hB, hB2]; rfl
      subst hB2 hV2
      have h9 : 8 < s.size := by omega
      clear hB hV hr hr2 h8
      go_enter Try.func18, Try.ntmps18
      go_wp2_with fail
      refine (c1).calls ?_
      go_wp2_with fail
      go_ret2
      exact ⟨rfl, rfl⟩

theorem low_drop (u : Int) (j : Nat) : (bs (RefOct.low u (j + 1))).extract 1 (bs (RefOct.low u (j + 1))).size = bs (RefOct.low u j) := by
  apply ba_ext
  rw [ext_list, list_bs, list_bs, low_at, List.drop_succ_cons, List.drop_zero, List.take_of_length_le (by rw [size_bs, List.length_cons]; omega)]

theorem wrap_u64 (n : Int) : IntKind.u64.wrap n = n % 18446744073709551616 := by simp [IntKind.wrap, IntKind.bits, IntKind.signed]

set_option maxHeartbeats 2000000 in
theorem enc_mak (n u : Int) (hu : u = n % 18446744073709551616) (h1 : -9223372036854775808 ≤ n) (h2 : n ≤ 9223372036854775807) (X : ByteArray) (hX : X = bs (RefOct.low u (wid n))) : Mak 19 #[.int .i64 n] (.string X) := by
  intro w
  have c1 : Mak 38 #[.int .u64 u, .int .i64 8] (.string (bs (RefOct.low u 8))) := fun w => by
    have h := Oct.put_mid u 8 w (by omega) (by omega) (by decide) (by decide)
    rwa [RefOct.put_same u 8 (by decide)] at h
  have H0 := Lib.hid (Since.refl w)
  have hwb := wid_bd n
  obtain ⟨hw1, hw8⟩ := hwb
  have Hu := Lib.hid hu
  clear hu
  have HX := Lib.hid hX
  clear hX
  go_enter Try.func19, Try.ntmps19
  go_wp2_with fail
  rw [show IntKind.u64.wrap n = u from by rw [wrap_u64 n, Hu.out]]
  refine (c1).calls H0.out ?_
  intro w1 h1
  have H1 := Lib.hid h1
  clear h1
  go_wp2_with fail
  go_loop [3] (fun c => ∃ j : Nat, wid n ≤ j ∧ 1 ≤ j ∧ j ≤ 8 ∧ c = .string (bs (RefOct.low u j))) (fun c => match c with | .string S => S.size | _ => 0)
  case atStart => exact ⟨8, hw8, by omega, by omega, rfl⟩
  case round =>
    obtain ⟨j, hj, hj1, hj8, rfl⟩ := hrel
    have hsz : (bs (RefOct.low u j)).size = j := by rw [size_bs, RefOct.low_len]
    by_cases hlt : wid n < j
    · have hr : rightL (RefOct.low u j) = false := (right_wide n u Hu.out h1 h2 j (by omega) hj8 hj).2 hlt
      have c2 := right_ret (bs (RefOct.low u j)) (by rw [hsz]; omega) false (by rw [list_bs, hr])
      obtain ⟨i, rfl⟩ : ∃ i, j = i + 1 := ⟨j - 1, by omega⟩
      have hd := low_drop u i
      have hsz2 : (bs (RefOct.low u i)).size = i := by rw [size_bs, RefOct.low_len]
      obtain ⟨C, hC⟩ : ∃ C, C = bs (RefOct.low u (i + 1)) := ⟨_, rfl⟩
      rw [← hC] at c2 hd hsz ⊢
      have Hr := Lib.hid hr
      clear hr
      have HC := Lib.hid hC
      clear hC
      have Hd := Lib.hid hd
      clear hd
      have Hsz2 := Lib.hid hsz2
      clear hsz2
      have hge : 1 ≤ C.size := by rw [hsz]; omega
      have hle : C.size ≤ 8 := by rw [hsz]; omega
      have Hsz := Lib.hid hsz
      clear hsz
      go_wp2_with fail
      refine (c2).calls ?_
      go_wp2_with fail
      go_round
      case rel => exact ⟨i, by omega, by omega, by omega, by rw [Hd.out]⟩
      case measure => simp only []; rw [Hd.out, Hsz2.out, Hsz.out]; omega
    · obtain rfl : j = wid n := by omega
      have c2 := right_ret (bs (RefOct.low u (wid n))) (by rw [hsz]; omega) true (by rw [list_bs, right_low n u Hu.out ⟨h1, h2⟩])
      rw [← HX.out] at c2 ⊢
      have Hsz := Lib.hid hsz
      clear hsz
      go_wp2_with fail
      refine (c2).calls ?_
      go_wp2_with fail
      go_ret
      exact ⟨rfl, H1.out⟩

theorem fits_of (n : Int) (j : Nat) (h1 : -9223372036854775808 ≤ n) (h2 : n ≤ 9223372036854775807) (hj : wid n ≤ j) (hj8 : j ≤ 8) : fits n j := (wid_le n j (Nat.le_trans (wid_bd n).1 hj) hj8 ⟨h1, h2⟩).1 hj
theorem not_fits (n : Int) (j : Nat) (h1 : -9223372036854775808 ≤ n) (h2 : n ≤ 9223372036854775807) (hj : j < wid n) (hj1 : 1 ≤ j) : ¬ fits n j := fun h => Nat.lt_irrefl _ (Nat.lt_of_lt_of_le hj ((wid_le n j hj1 (by have := (wid_bd n).2; omega) ⟨h1, h2⟩).2 h))

set_option maxHeartbeats 2000000 in
theorem renc_mak (n u : Int) (hu : u = n % 18446744073709551616) (h1 : -9223372036854775808 ≤ n) (h2 : n ≤ 9223372036854775807) (X : ByteArray) (hX : X = bs (RefOct.low u (wid n))) : Mak 20 #[.int .i64 n] (.string X) := by
  intro w
  have c1 : ∀ k : Nat, 1 ≤ k → k ≤ 8 → Mak 33 #[.int .u64 u, .int .i64 (k : Int)] (.string (bs (RefOct.low u k))) := fun k hk1 hk8 w => RefOct.put_mid u k w (by omega) (by omega) hk1 hk8
  have H0 := Lib.hid (Since.refl w)
  have hwb := wid_bd n
  obtain ⟨hw1, hw8⟩ := hwb
  have Hu := Lib.hid hu
  have C1 := Lib.hid c1
  clear hu c1
  have HX := Lib.hid hX
  clear hX
  go_enter Try.func20, Try.ntmps20
  go_wp2_with fail
  go_loopw [3] (fun c wr => ∃ j : Nat, j ≤ wid n ∧ 1 ≤ j ∧ c = .int .i64 (j : Int) ∧ Hid (Since w wr)) (fun c _ => 9 - (intOf c).toNat)
  case atStart => exact ⟨1, hw1, by omega, rfl, H0⟩
  case round =>
    obtain ⟨j, hj, hj1, rfl, HS⟩ := hrel
    by_cases h8 : j < 8
    · have c2 := C1.out j hj1 (by omega)
      have hl : (RefOct.low u j).length = j := RefOct.low_len u j
      have c3 := rdec_ret (bs (RefOct.low u j)) (by rw [size_bs, hl]; omega) _ _ rfl rfl
      rw [list_bs] at c3
      by_cases hlt : j < wid n
      · have hno := not_fits n j h1 h2 hlt hj1
        have hnv : decB (RefOct.low u j) = true → decV (RefOct.low u j) ≠ n := fun hb hv => by
          unfold decV at hv
          rw [if_pos hb] at hv
          have := sgn_fits (RefOct.low u j) (by rw [hl]; exact hj1)
          rw [hl, hv] at this
          exact hno this
        obtain ⟨b, hb⟩ : ∃ b, b = decB (RefOct.low u j) := ⟨_, rfl⟩
        obtain ⟨v, hv⟩ : ∃ v, v = decV (RefOct.low u j) := ⟨_, rfl⟩
        rw [← hb, ← hv] at c3 hnv
        obtain ⟨C, hC⟩ : ∃ C, C = bs (RefOct.low u j) := ⟨_, rfl⟩
        rw [← hC] at c2 c3
        have Hb := Lib.hid hb
        clear hb
        have Hv := Lib.hid hv
        clear hv
        have HC := Lib.hid hC
        clear hC
        have Hl := Lib.hid hl
        clear hl
        have Hno := Lib.hid hno
        clear hno
        cases b with
        | true =>
          have hvn : (v == n) = false := by rw [beq_eq_false_iff_ne]; exact hnv rfl
          clear hnv
          go_wp2_with fail
          rw [show IntKind.u64.wrap n = u from by rw [wrap_u64 n, Hu.out]]
          refine (c2).calls HS.out ?_
          intro w1 h1
          have H1 := Lib.hid h1
          clear h1
          go_wp2_with fail
          refine (c3).calls ?_
          go_wp2_with fail
          go_roundw
          case rel => exact ⟨j + 1, by omega, by omega, by go_num, H1⟩
          case measure => simp [intOf]; omega
        | false =>
          clear hnv
          go_wp2_with fail
          rw [show IntKind.u64.wrap n = u from by rw [wrap_u64 n, Hu.out]]
          refine (c2).calls HS.out ?_
          intro w1 h1
          have H1 := Lib.hid h1
          clear h1
          go_wp2_with fail
          refine (c3).calls ?_
          go_wp2_with fail
          go_roundw
          case rel => exact ⟨j + 1, by omega, by omega, by go_num, H1⟩
          case measure => simp [intOf]; omega
      · obtain rfl : j = wid n := by omega
        have hb : decB (RefOct.low u (wid n)) = true := by unfold decB; rw [right_low n u Hu.out ⟨h1, h2⟩, hl, decide_eq_true (by omega)]; rfl
        have hv : decV (RefOct.low u (wid n)) = n := by unfold decV; rw [if_pos hb]; exact sgn_low n u Hu.out (wid n) hw1 hw8 (fits_of n _ h1 h2 (Nat.le_refl _) hw8)
        rw [hb, hv] at c3
        rw [← HX.out] at c2 c3
        have hvn : (n == n) = true := by simp
        have Hb := Lib.hid hb
        clear hb
        have Hv := Lib.hid hv
        clear hv
        have Hl := Lib.hid hl
        clear hl
        go_wp2_with fail
        rw [show IntKind.u64.wrap n = u from by rw [wrap_u64 n, Hu.out]]
        refine (c2).calls HS.out ?_
        intro w1 h1
        have H1 := Lib.hid h1
        clear h1
        go_wp2_with fail
        refine (c3).calls ?_
        go_wp2_with fail
        go_ret
        exact ⟨rfl, H1.out⟩
    · have hj8 : wid n = 8 := by omega
      have c2 := C1.out 8 (by decide) (by decide)
      rw [← hj8, ← HX.out, hj8] at c2
      have Hj8 := Lib.hid hj8
      clear hj8
      go_wp2_with fail
      rw [show IntKind.u64.wrap n = u from by rw [wrap_u64 n, Hu.out]]
      refine (c2).calls HS.out ?_
      intro w1 h1
      have H1 := Lib.hid h1
      clear h1
      go_wp2_with fail
      go_ret
      exact ⟨rfl, H1.out⟩

/-- the contents of a number that is not below 0 -/
def bigT (t : List UInt8) : List UInt8 := match t with | [] => [0] | x :: l => if 128 ≤ x.toNat then 0 :: x :: l else x :: l
def bigL (l : List UInt8) : List UInt8 := bigT (Oct.trimL l)

theorem trimL_size (s : ByteArray) : (bs (Oct.trimL s.data.toList)).size ≤ s.size := by
  rw [size_bs]
  exact (List.dropWhile_sublist (fun x : UInt8 => x == 0) (l := s.data.toList)).length_le

set_option maxRecDepth 100000 in
set_option maxHeartbeats 2000000 in
theorem big_mak (s : ByteArray) (hm : s.size ≤ 100000) (X : ByteArray) (hX : X = bs (bigL s.data.toList)) : Mak 27 #[.string s] (.string X) := by
  intro w
  have c1 := Oct.trim_ret s (by omega) _ rfl
  have hTs := trimL_size s
  have hXT : X = bs (bigT (bs (Oct.trimL s.data.toList)).data.toList) := hX
  obtain ⟨T, hT⟩ : ∃ T, T = bs (Oct.trimL s.data.toList) := ⟨_, rfl⟩
  rw [← hT] at c1 hTs hXT
  have c2 : Mak 42 #[.int .i64 1] (.string ⟨#[0]⟩) := fun w => Oct.zeros_yes 1 w (by decide) (by decide)
  have H0 := Lib.hid (Since.refl w)
  clear hX hT
  have hlit : ∀ w2 : World, X = bs (0 :: T.data.toList) → Calls Try.prog 41 #[.slice (some ⟨w2.heap.size, 0, none⟩) 2 2] (w2.alloc (.cells #[.string ⟨#[0]⟩, .string T] 9)) fun e w' => e = .returned (.string X) ∧ Below w2.heap.size w2 w' := fun w2 h => by
    have h9 : T.size = T.data.toList.length := rfl
    refine Oct.join_lit w2 [⟨#[0]⟩, T] 2 rfl _ rfl X ?_ (by rw [h, size_bs, List.length_cons]; omega) (by decide)
    rw [h]; simp [Oct.cat]
  have HL := Lib.hid hlit
  clear hlit
  by_cases h0 : T.size = 0
  · obtain rfl : T = ⟨#[]⟩ := ba_ext (List.eq_nil_of_length_eq_zero h0)
    have hX0 : X = bs [0] := hXT
    have HX0 := Lib.hid hX0
    clear hXT hX0 h0
    go_enter Try.func27, Try.ntmps27
    go_wp2_with fail
    refine (c1).calls ?_
    go_wp2_with fail
    refine (c2).calls H0.out ?_
    intro w1 h1
    have H1 := Lib.hid h1
    clear h1
    go_wp2_with fail
    refine (HL.out w1 HX0.out).mono ?_
    rintro e w2 ⟨rfl, hb⟩
    have H2 := Lib.hid (H1.out.step hb)
    clear hb
    go_wp2_with fail
    go_ret
    exact ⟨rfl, H2.out⟩
  · have hne := some_bytes_f T (by omega)
    have hne2 := some_bytes T (by omega)
    have hpos : 0 < T.size := by omega
    have hlt := T[0].toNat_lt
    have hl : ∃ m, T.data.toList = T[0] :: m := by
      have hg := get_at T 0 hpos
      cases hl : T.data.toList with
      | nil => rw [hl] at hg; simp at hg
      | cons a m => rw [hl] at hg; simp at hg; exact ⟨m, by rw [hg]⟩
    obtain ⟨m, hl⟩ := hl
    clear h0
    by_cases h8 : 128 ≤ T[0].toNat
    · have hX0 : X = bs (0 :: T.data.toList) := by rw [hXT, hl]; show bs (if 128 ≤ T[0].toNat then _ else _) = _; rw [if_pos h8]
      have HXT := Lib.hid hXT
      clear hXT
      have Hl := Lib.hid hl
      clear hl
      have HX0 := Lib.hid hX0
      clear hX0
      go_enter Try.func27, Try.ntmps27
      go_wp2_with fail
      refine (c1).calls ?_
      go_wp2_with fail
      refine (c2).calls H0.out ?_
      intro w1 h1
      have H1 := Lib.hid h1
      clear h1
      go_wp2_with fail
      refine (HL.out w1 HX0.out).mono ?_
      rintro e w2 ⟨rfl, hb⟩
      have H2 := Lib.hid (H1.out.step hb)
      clear hb
      go_wp2_with fail
      go_ret
      exact ⟨rfl, H2.out⟩
    · have hX0 : X = T := by
        rw [hXT, hl]; show bs (if 128 ≤ T[0].toNat then _ else _) = _; rw [if_neg h8, ← hl, bs_list]
      subst hX0
      have HXT := Lib.hid hXT
      clear hXT
      have Hl := Lib.hid hl
      clear hl
      go_enter Try.func27, Try.ntmps27
      go_wp2_with fail
      refine (c1).calls ?_
      go_wp2_with fail
      go_ret
      exact ⟨rfl, H0.out⟩

set_option maxRecDepth 100000 in
set_option maxHeartbeats 2000000 in
theorem rbig_ret (s : ByteArray) (hm : s.size ≤ 100000) (X : ByteArray) (hX : X = bs (bigL s.data.toList)) : Ret 28 #[.string s] (.string X) := by
  intro w
  have c1 := RefOct.trim_ret s (by omega) _ rfl
  have hTs := trimL_size s
  have hXT : X = bs (bigT (bs (Oct.trimL s.data.toList)).data.toList) := hX
  obtain ⟨T, hT⟩ : ∃ T, T = bs (Oct.trimL s.data.toList) := ⟨_, rfl⟩
  rw [← hT] at c1 hTs hXT
  clear hX hT
  have hsz : ¬ 9223372036854775807 < (⟨#[0]⟩ : ByteArray).size + T.size := by
    have h9 : (⟨#[0]⟩ : ByteArray).size = 1 := rfl
    rw [h9]; omega
  have hcat : ⟨#[0]⟩ ++ T = bs (0 :: T.data.toList) := ba_ext (by rw [app_list, list_bs]; rfl)
  by_cases h0 : T.size = 0
  · obtain rfl : T = ⟨#[]⟩ := ba_ext (List.eq_nil_of_length_eq_zero h0)
    have hX0 : X = bs [0] := hXT
    subst hX0
    clear hXT h0 hcat
    go_enter Try.func28, Try.ntmps28
    go_wp2_with fail
    refine (c1).calls ?_
    go_wp2_with fail
    go_ret
    exact ⟨rfl, rfl⟩
  · have hne := some_bytes_f T (by omega)
    have hne2 := some_bytes T (by omega)
    have hpos : 0 < T.size := by omega
    have hlt := T[0].toNat_lt
    have hl : ∃ m, T.data.toList = T[0] :: m := by
      have hg := get_at T 0 hpos
      cases hl : T.data.toList with
      | nil => rw [hl] at hg; simp at hg
      | cons a m => rw [hl] at hg; simp at hg; exact ⟨m, by rw [hg]⟩
    obtain ⟨m, hl⟩ := hl
    clear h0
    by_cases h8 : 128 ≤ T[0].toNat
    · have hX0 : X = ⟨#[0]⟩ ++ T := by rw [hcat, hXT, hl]; show bs (if 128 ≤ T[0].toNat then _ else _) = _; rw [if_pos h8]
      subst hX0
      have h127 : 127 < T[0].toNat := by omega
      have HXT := Lib.hid hXT
      clear hXT
      have Hl := Lib.hid hl
      clear hl
      have Hcat := Lib.hid hcat
      clear hcat
      go_enter Try.func28, Try.ntmps28
      go_wp2_with fail
      refine (c1).calls ?_
      go_wp2_with fail
      go_ret
      exact ⟨rfl, rfl⟩
    · have hX0 : X = T := by
        rw [hXT, hl]; show bs (if 128 ≤ T[0].toNat then _ else _) = _; rw [if_neg h8, ← hl, bs_list]
      have h127 : T[0].toNat ≤ 127 := by omega
      subst hX0
      have HXT := Lib.hid hXT
      clear hXT
      have Hl := Lib.hid hl
      clear hl
      have Hcat := Lib.hid hcat
      clear hcat
      go_enter Try.func28, Try.ntmps28
      go_wp2_with fail
      refine (c1).calls ?_
      go_wp2_with fail
      go_ret
      exact ⟨rfl, rfl⟩
end Whole
end Go.Proofs.Ytlcicpdnakmdnaa
