/- The reference's Undec, Dec, Unnum. -/
import Derived.Test.YtldipjlepofdgaaRefNum
namespace Go.Proofs.Ytldipjlepofdgaa
open Go.RowKit
namespace RefDig
open Dig

theorem val_dig (c : Nat) (h : 48 ≤ c ∧ c ≤ 57) : val c = (c : Int) - 48 := by unfold val; rw [if_pos h]
theorem val_not (c : Nat) (h : ¬ (48 ≤ c ∧ c ≤ 57)) : val c < 0 ∨ 9 < val c := by unfold val; rw [if_neg h]; split <;> omega

set_option maxHeartbeats 400000 in
theorem undec_out (s : ByteArray) (h : s.size < 1 ∨ 18 < s.size) (hm : s.size ≤ 140737488355328) : Ret 40 #[.string s] (.tuple #[.int .i64 0, .bool false]) := by
  intro w
  rcases h with h | h
  · go_enter Try.func40, Try.ntmps40
    go_wp2
    go_ret2
    exact ⟨rfl, rfl⟩
  · have h' : ¬ s.size < 1 := by omega
    go_enter Try.func40, Try.ntmps40
    go_wp2
    go_ret2
    exact ⟨rfl, rfl⟩

set_option maxHeartbeats 1000000 in
theorem undec_in (s : ByteArray) (h1 : 1 ≤ s.size) (hs : s.size ≤ 18) (N : Int) (B : Bool) (hB : B = s.data.toList.all isD) (hN : N = if s.data.toList.all isD = true then (numD s.data.toList : Int) else 0) :
    Ret 40 #[.string s] (.tuple #[.int .i64 N, .bool B]) := by
  intro w
  have HB := Lib.hid hB
  clear hB
  have HN := Lib.hid hN
  clear hN
  go_enter Try.func40, Try.ntmps40
  go_wp2
  go_loop [4, 5] (fun n i => ∃ k : Nat, k ≤ s.size ∧ i = .int .i64 k ∧ Hid ((s.data.toList.take k).all isD = true) ∧ n = .int .i64 ((numD (s.data.toList.take k) : Nat) : Int)) (fun _ i => s.size - (intOf i).toNat)
  case atStart => exact ⟨0, Nat.zero_le _, rfl, Lib.hid rfl, rfl⟩
  case round =>
    obtain ⟨k, hk, rfl, HA, rfl⟩ := hrel
    by_cases hlt : k < s.size
    · have hts : numD (s.data.toList.take (k + 1)) = 10 * numD (s.data.toList.take k) + (s[k].toNat - 48) := by
        rw [take_snoc s k hlt, numD_snoc]
      have has : (s.data.toList.take (k + 1)).all isD = isD s[k] := by
        rw [take_snoc s k hlt, List.all_append, HA.out]; simp
      have hb : numD (s.data.toList.take k) < 10 ^ 17 := numD_lt _ 17 HA.out (by simp; omega)
      have hb2 : numD (s.data.toList.take k) < 100000000000000000 := hb
      clear hb
      have hc := s[k].toNat_lt
      have HS := Lib.hid hts
      have HSA := Lib.hid has
      clear hts has
      generalize numD (s.data.toList.take k) = q at *
      have hcall := fun W => qval s[k].toNat hc _ rfl W
      by_cases c1 : 48 ≤ s[k].toNat ∧ s[k].toNat ≤ 57
      · have hd : isD s[k] = true := by unfold isD; simp [c1.1, c1.2]
        have hv := val_dig s[k].toNat c1
        rw [hv] at hcall
        obtain ⟨c1, c2⟩ := c1
        have Hd := Lib.hid hd
        clear hd
        have Hv := Lib.hid hv
        clear hv
        have Hcall := Lib.hid hcall
        clear hcall
        go_wp2_with fail
        refine (Hcall.out _).mono ?_
        rintro e w1 ⟨rfl, rfl⟩
        go_wp2_with fail
        go_round
        case rel => exact ⟨k + 1, by omega, by go_num, Lib.hid (by rw [HSA.out, Hd.out]), by rw [HS.out]; congr 1; omega⟩
        case measure => simp [intOf]; omega
      · have hd : isD s[k] = false := by unfold isD; simp; omega
        have hv := val_not s[k].toNat c1
        have hno : s.data.toList.all isD = false := by
          cases hc : s.data.toList.all isD with
          | false => rfl
          | true => have := all_take _ (k + 1) hc; rw [HSA.out, hd] at this; cases this
        have hN0 : N = 0 := by rw [HN.out, hno]; rfl
        have hB0 : B = false := by rw [HB.out, hno]
        subst hN0 hB0
        clear hd hno
        obtain ⟨v, hvv⟩ : ∃ v, v = val s[k].toNat := ⟨_, rfl⟩
        rw [← hvv] at hv hcall
        have Hvv := Lib.hid hvv
        clear hvv
        have Hcall := Lib.hid hcall
        clear hcall
        clear c1
        rcases hv with hv | hv
        · go_wp2_with fail
          refine (Hcall.out _).mono ?_
          rintro e w1 ⟨rfl, rfl⟩
          go_wp2_with fail
          go_ret2
          exact ⟨rfl, rfl⟩
        · have hv0 : ¬ v < 0 := by omega
          go_wp2_with fail
          refine (Hcall.out _).mono ?_
          rintro e w1 ⟨rfl, rfl⟩
          go_wp2_with fail
          go_ret2
          exact ⟨rfl, rfl⟩
    · have hall : s.data.toList.take k = s.data.toList := List.take_of_length_le (by simp; omega)
      have hAA := HA.out
      rw [hall] at hAA
      have hB0 : B = true := by rw [HB.out, hAA]
      have hN0 : N = (numD s.data.toList : Int) := by rw [HN.out, hAA]; rfl
      rw [hall]
      subst hB0
      have HN0 := Lib.hid hN0
      clear hall hAA hN0
      go_wp2_with fail
      go_ret2
      rw [HN0.out]
      exact ⟨rfl, rfl⟩

set_option maxHeartbeats 400000 in
theorem dec_out (n width : Int) (h : n < 0 ∨ width < 1 ∨ 18 < width) : Ret 44 #[.int .i64 n, .int .i64 width] (.string ⟨#[]⟩) := by
  intro w
  by_cases h1 : n < 0
  · go_enter Try.func44, Try.ntmps44
    go_wp2
    go_ret
    exact ⟨rfl, rfl⟩
  · by_cases h2 : width < 1
    · go_enter Try.func44, Try.ntmps44
      go_wp2
      go_ret
      exact ⟨rfl, rfl⟩
    · have h3 : 18 < width := by omega
      clear h
      go_enter Try.func44, Try.ntmps44
      go_wp2
      go_ret
      exact ⟨rfl, rfl⟩

theorem dec_same (n W : Nat) (hn : n ≤ 9223372036854775807) (h : (digs 20 n).length ≤ W) : bs (List.replicate (W - (digs 20 n).length) 48 ++ digs 20 n) = strOfNums ((List.range W).map fun i => dg n (W - 1 - i)) := by
  obtain ⟨a, b, c, d⟩ := digs_spec 20 n (by decide) (Nat.lt_of_le_of_lt hn (by decide))
  have he := digs_eq n _ a c d (by omega)
  obtain ⟨L, hL⟩ : ∃ L, L = (digs 20 n).length := ⟨_, rfl⟩
  rw [← hL] at a b c d he h ⊢
  apply ba_ext
  rw [list_bs, nums_list, List.map_map, he]
  apply List.ext_getElem?
  intro i
  by_cases hi : i < W - L
  · rw [List.getElem?_append_left (by simpa using hi)]
    have h1 : n / 10 ^ (W - 1 - i) = 0 := Nat.div_eq_of_lt (Nat.lt_of_lt_of_le c (Nat.pow_le_pow_right (by decide) (by omega)))
    have h2 : dg n (W - 1 - i) = 48 := by unfold dg; rw [h1]; rfl
    simp [hi, show i < W by omega, h2]
  · rw [List.getElem?_append_right (by simp; omega)]
    by_cases hw : i < W
    · simp [show i - (W - L) < L by omega, hw]
      rw [show L - 1 - (i - (W - L)) = W - 1 - i by omega]
    · rw [List.getElem?_eq_none (by simp; omega), List.getElem?_eq_none (by simp; omega)]

theorem dec_iff (n W : Nat) (hn : n ≤ 9223372036854775807) (hW : 1 ≤ W) : n < 10 ^ W ↔ (digs 20 n).length ≤ W := by
  obtain ⟨a, b, c, d⟩ := digs_spec 20 n (by decide) (Nat.lt_of_le_of_lt hn (by decide))
  constructor
  · intro h
    apply Classical.byContradiction
    intro h2
    rcases d with d | d
    · omega
    · have h3 : 10 ^ W ≤ 10 ^ ((digs 20 n).length - 1) := Nat.pow_le_pow_right (by decide) (by omega)
      omega
  · intro h
    exact Nat.lt_of_lt_of_le c (Nat.pow_le_pow_right (by decide) h)

set_option maxHeartbeats 1000000 in
theorem dec_mid (n W : Nat) (hn : n ≤ 9223372036854775807) (h0 : 1 ≤ W) (h1 : W ≤ 18) (X : ByteArray) (hX : X = if n < 10 ^ W then strOfNums ((List.range W).map fun i => dg n (W - 1 - i)) else ⟨#[]⟩) :
    Mak 44 #[.int .i64 (n : Int), .int .i64 (W : Int)] (.string X) := by
  intro w
  have H0 := Lib.hid (Since.refl w)
  have hp := plain_any n hn _ rfl
  have hl : (digs 20 n).length ≤ 20 := (digs_spec 20 n (by decide) (Nat.lt_of_le_of_lt hn (by decide))).2.1
  obtain ⟨P, hP⟩ : ∃ P, P = bs (digs 20 n) := ⟨_, rfl⟩
  rw [← hP] at hp
  have hPs : P.size = (digs 20 n).length := by rw [hP]; rfl
  rw [← hPs] at hl
  by_cases hlt : n < 10 ^ W
  · have hle : P.size ≤ W := by rw [hPs]; exact (dec_iff n W hn h0).1 hlt
    have hXX : X = bs (List.replicate (W - P.size) 48 ++ P.data.toList) := by
      rw [hX, if_pos hlt, ← dec_same n W hn ((dec_iff n W hn h0).1 hlt), hP]; rfl
    clear hX hlt
    have HXX := Lib.hid hXX
    clear hXX
    have HP := Lib.hid hP
    clear hP
    have HPs := Lib.hid hPs
    clear hPs
    go_enter Try.func44, Try.ntmps44
    go_wp2_with fail
    refine (hp).calls H0.out ?_
    intro w1 h1
    have H1 := Lib.hid h1
    clear h1
    go_wp2_with fail
    go_loop [5] (fun s => ∃ (j : Nat) (S : ByteArray), s = .string S ∧ Hid (S.size = j + P.size) ∧ S.size ≤ W ∧ Hid (S = bs (List.replicate j 48 ++ P.data.toList))) (fun s => match s with | .string S => W - S.size | _ => 0)
    case atStart => exact ⟨0, P, rfl, Lib.hid (by omega), hle, Lib.hid (by simp [bs_list])⟩
    case round =>
      obtain ⟨j, S, rfl, HSz, hS, HS⟩ := hrel
      by_cases hgo : S.size < W
      · have hsz : ¬ 9223372036854775807 < (⟨#[48]⟩ : ByteArray).size + S.size := by
          have h9 : (⟨#[48]⟩ : ByteArray).size = 1 := rfl
          rw [h9]; omega
        have hnx : ⟨#[48]⟩ ++ S = bs (List.replicate (j + 1) 48 ++ P.data.toList) := by
          apply ba_ext
          rw [app_list, HS.out, list_bs, list_bs, List.replicate_succ]; rfl
        have hns : (⟨#[48]⟩ ++ S).size = S.size + 1 := by
          have h9 : (⟨#[48]⟩ ++ S).size = (⟨#[48]⟩ ++ S).data.toList.length := rfl
          rw [h9, app_list, List.length_append]
          have h8 : (⟨#[48]⟩ : ByteArray).data.toList.length = 1 := rfl
          have h7 : S.size = S.data.toList.length := rfl
          omega
        have Hnx := Lib.hid hnx
        clear hnx
        have Hns := Lib.hid hns
        clear hns
        go_wp2_with fail
        go_round
        case rel => exact ⟨j + 1, _, rfl, Lib.hid (by rw [Hns.out, HSz.out]; omega), by rw [Hns.out]; omega, Hnx⟩
        case measure => simp only []; rw [Hns.out]; omega
      · have hX2 : X = S := by
          rw [HXX.out, HS.out]
          have := HSz.out
          rw [show W - P.size = j by omega]
        subst hX2
        go_wp2_with fail
        go_ret
        exact ⟨rfl, H1.out⟩
  · have hgt : W < P.size := by
      rw [hPs]
      apply Classical.byContradiction
      intro h
      exact hlt ((dec_iff n W hn h0).2 (by omega))
    rw [if_neg hlt] at hX
    subst hX
    clear hlt
    have HP := Lib.hid hP
    clear hP
    have HPs := Lib.hid hPs
    clear hPs
    go_enter Try.func44, Try.ntmps44
    go_wp2_with fail
    refine (hp).calls H0.out ?_
    intro w1 h1
    have H1 := Lib.hid h1
    clear h1
    go_wp2_with fail
    go_ret
    exact ⟨rfl, H1.out⟩


set_option maxHeartbeats 400000 in
theorem unnum_out (s : ByteArray) (h : s.size < 1 ∨ 20 < s.size) (hm : s.size ≤ 140737488355328) : Ret 42 #[.string s] (.tuple #[.int .i64 0, .bool false]) := by
  intro w
  rcases h with h | h
  · go_enter Try.func42, Try.ntmps42
    go_wp2
    go_ret2
    exact ⟨rfl, rfl⟩
  · have h' : ¬ s.size < 1 := by omega
    go_enter Try.func42, Try.ntmps42
    go_wp2
    go_ret2
    exact ⟨rfl, rfl⟩

set_option maxHeartbeats 2000000 in
theorem unnum_pos (s : ByteArray) (h1 : 1 ≤ s.size) (hs : s.size ≤ 20) (h45 : s[0].toNat ≠ 45) (V0 V : Int) (B : Bool) (h0 : V0 = unV s.data.toList) (hB : B = decide (bs (numS V0) = s)) (hV : V = if B = true then V0 else 0) :
    Mak 42 #[.string s] (.tuple #[.int .i64 V, .bool B]) := by
  intro w
  have hbd := unV_bounds s.data.toList
  rw [← h0] at hbd
  have h9 : s.size = s.data.toList.length := rfl
  have hhead : s.data.toList.head? ≠ some 45 := by
    rw [List.head?_eq_getElem?, List.getElem?_eq_getElem (show 0 < s.data.toList.length by omega)]
    intro h
    have h2 : s[0] = 45 := Option.some.inj h
    exact h45 (by rw [h2]; rfl)
  have hp : B = true → s.data.toList.all isD = true ∧ (numD s.data.toList : Int) = V0 := fun h => by
    rw [h] at hB
    have h2 := of_decide_eq_true hB.symm
    rw [h0] at h2
    have h3 := pos_true s.data.toList hhead (by rw [← list_bs (numS _), h2])
    rwa [← h0] at h3
  have hb45 : ((s[0].toNat : Int) == 45) = false := by rw [beq_eq_false_iff_ne]; omega
  have HP := Lib.hid hp
  have HV0 := Lib.hid h0
  have HBD := Lib.hid hbd
  have H0 := Lib.hid (Since.refl w)
  have HB := Lib.hid hB
  clear hB
  have HV := Lib.hid hV
  clear hV
  clear hp h0 hbd hhead h9 h45
  go_enter Try.func42, Try.ntmps42
  go_wp2
  go_loop [6, 7] (fun n i => ∃ k q : Nat, k ≤ s.size ∧ i = .int .i64 k ∧ n = .int .i64 (q : Int) ∧ q ≤ 9223372036854775807 ∧ Hid ((s.data.toList.take k).all isD = true) ∧ Hid (q = numD (s.data.toList.take k))) (fun _ i => s.size - (intOf i).toNat)
  case atStart => exact ⟨0, 0, Nat.zero_le _, rfl, rfl, by omega, Lib.hid rfl, Lib.hid rfl⟩
  case round =>
    obtain ⟨k, q, hk, rfl, rfl, hq, HA, HQ⟩ := hrel
    by_cases hlt : k < s.size
    · have hts : numD (s.data.toList.take (k + 1)) = 10 * q + (s[k].toNat - 48) := by rw [take_snoc s k hlt, numD_snoc, HQ.out]
      have has : (s.data.toList.take (k + 1)).all isD = isD s[k] := by
        rw [take_snoc s k hlt, List.all_append, HA.out]; simp
      have hc := s[k].toNat_lt
      have hle := numD_take s.data.toList (k + 1)
      have hcall := fun W => qval s[k].toNat hc _ rfl W
      by_cases c1 : 48 ≤ s[k].toNat ∧ s[k].toNat ≤ 57
      · have hd : isD s[k] = true := by unfold isD; simp [c1.1, c1.2]
        have hv := val_dig s[k].toNat c1
        obtain ⟨D, hD⟩ : ∃ D : Nat, D = s[k].toNat - 48 := ⟨_, rfl⟩
        have hDv : (s[k].toNat : Int) - 48 = (D : Int) := by omega
        have hD9 : D ≤ 9 := by omega
        rw [hv, hDv] at hcall
        rw [← hD] at hts
        obtain ⟨c1, c2⟩ := c1
        by_cases hov : 10 * q + D ≤ 9223372036854775807
        · have hno : ¬ (9223372036854775807 - (D : Int)) / 10 < (q : Int) := by omega
          have Hd := Lib.hid hd
          clear hd
          have Hv := Lib.hid hv
          clear hv
          have Hcall := Lib.hid hcall
          clear hcall
          have Hts := Lib.hid hts
          clear hts
          have Has := Lib.hid has
          clear has
          have Hle := Lib.hid hle
          clear hle
          have HD := Lib.hid hD
          clear hD
          have HDv := Lib.hid hDv
          clear hDv
          clear c1 c2
          go_wp2_with fail
          refine (Hcall.out _).mono ?_
          rintro e w1 ⟨rfl, rfl⟩
          go_wp2_with fail
          go_round
          case rel => exact ⟨k + 1, 10 * q + D, by omega, by go_num, by go_num, by omega, Lib.hid (by rw [Has.out, Hd.out]), Lib.hid Hts.out.symm⟩
          case measure => simp [intOf]; omega
        · have hyes : (9223372036854775807 - (D : Int)) / 10 < (q : Int) := by omega
          have hB0 : B = false := by
            cases hBB : B with
            | false => rfl
            | true =>
              exfalso
              have h2 := (HP.out hBB).2
              have h3 := HBD.out.2
              omega
          have hV0 : V = 0 := by rw [HV.out, hB0]; rfl
          subst hB0 hV0
          have Hd := Lib.hid hd
          clear hd
          have Hv := Lib.hid hv
          clear hv
          have Hcall := Lib.hid hcall
          clear hcall
          have Hts := Lib.hid hts
          clear hts
          have Has := Lib.hid has
          clear has
          have Hle := Lib.hid hle
          clear hle
          have HD := Lib.hid hD
          clear hD
          have HDv := Lib.hid hDv
          clear hDv
          clear c1 c2 hov
          go_wp2_with fail
          refine (Hcall.out _).mono ?_
          rintro e w1 ⟨rfl, rfl⟩
          go_wp2_with fail
          go_ret2
          exact ⟨rfl, H0.out⟩
      · have hd : isD s[k] = false := by unfold isD; simp; omega
        have hv := val_not s[k].toNat c1
        have hB0 : B = false := by
          cases hBB : B with
          | false => rfl
          | true =>
            exfalso
            have h2 := all_take _ (k + 1) (HP.out hBB).1
            rw [has, hd] at h2
            cases h2
        have hV0 : V = 0 := by rw [HV.out, hB0]; rfl
        subst hB0 hV0
        obtain ⟨v, hvv⟩ : ∃ v, v = val s[k].toNat := ⟨_, rfl⟩
        rw [← hvv] at hv hcall
        have Hvv := Lib.hid hvv
        clear hvv
        have Hcall := Lib.hid hcall
        clear hcall
        have Hts := Lib.hid hts
        clear hts
        have Has := Lib.hid has
        clear has
        have Hd := Lib.hid hd
        clear hd
        have Hle := Lib.hid hle
        clear hle
        clear c1
        rcases hv with hv | hv
        · go_wp2_with fail
          refine (Hcall.out _).mono ?_
          rintro e w1 ⟨rfl, rfl⟩
          go_wp2_with fail
          go_ret2
          exact ⟨rfl, H0.out⟩
        · have hv0 : ¬ v < 0 := by omega
          go_wp2_with fail
          refine (Hcall.out _).mono ?_
          rintro e w1 ⟨rfl, rfl⟩
          go_wp2_with fail
          go_ret2
          exact ⟨rfl, H0.out⟩
    · have hqf : (q : Int) = (numD s.data.toList : Nat) := by rw [HQ.out, List.take_of_length_le (by simp; omega)]
      have HQF := Lib.hid hqf
      clear hqf
      go_wp2_with fail
      refine (num_any (q : Int) (by omega) _ rfl).calls H0.out ?_
      intro w1 hW
      have HW := Lib.hid hW
      clear hW
      by_cases hE : bs (numS (q : Int)) = s
      · have hl : numS (q : Int) = s.data.toList := by rw [← hE]; rfl
        have hq2 : V0 = (q : Int) := by rw [HV0.out, ← hl]; exact unV_numS _ (by omega)
        have hB0 : B = true := by rw [HB.out, hq2]; exact decide_eq_true hE
        have hV0 : V = (q : Int) := by rw [HV.out, hB0, hq2]; rfl
        have hst := str_eq_f hE
        subst hB0 hV0
        have HE := Lib.hid hE
        clear hE
        have Hl := Lib.hid hl
        clear hl
        have Hq2 := Lib.hid hq2
        clear hq2
        go_wp2_with fail
        go_ret2
        exact ⟨rfl, HW.out⟩
      · have hB0 : B = false := by
          cases hBB : B with
          | false => rfl
          | true =>
            exfalso
            have h2 := HP.out hBB
            have h3 := HB.out
            rw [hBB] at h3
            have h4 := of_decide_eq_true h3.symm
            exact hE (by rw [← h4, ← h2.2, ← HQF.out])
        have hst := str_ne_t hE
        have hV0 : V = 0 := by rw [HV.out, hB0]; rfl
        subst hB0 hV0
        have HE := Lib.hid hE
        clear hE
        go_wp2_with fail
        go_ret2
        exact ⟨rfl, HW.out⟩

set_option maxHeartbeats 2000000 in
theorem unnum_neg (s : ByteArray) (h1 : 1 ≤ s.size) (hs : s.size ≤ 20) (h45 : s[0].toNat = 45) (V0 V : Int) (B : Bool) (h0 : V0 = unV s.data.toList) (hB : B = decide (bs (numS V0) = s)) (hV : V = if B = true then V0 else 0) :
    Mak 42 #[.string s] (.tuple #[.int .i64 V, .bool B]) := by
  intro w
  have hbd := unV_bounds s.data.toList
  rw [← h0] at hbd
  have h9 : s.size = s.data.toList.length := rfl
  obtain ⟨m, hm⟩ : ∃ m, s.data.toList = 45 :: m := by
    have h2 : s[0] = 45 := UInt8.toNat_inj.1 h45
    cases hl : s.data.toList with
    | nil => rw [hl, List.length_nil] at h9; omega
    | cons x m =>
      have h3 : s[0] = s.data.toList[0] := rfl
      simp only [hl] at h3
      exact ⟨m, by rw [← h2, h3]; rfl⟩
  have hmk : ∀ k, (hk : k + 1 < s.size) → m.take (k + 1) = m.take k ++ [s[k + 1]] := fun k hk => by
    have h3 : s[k + 1] = s.data.toList[k + 1] := rfl
    have h4 : k < m.length := by rw [h9, hm, List.length_cons] at hk; omega
    rw [List.take_succ_eq_append_getElem h4, h3]
    simp only [hm]
    rfl
  have hml : s.size = m.length + 1 := by rw [h9, hm, List.length_cons]
  have hp : B = true → m.all isD = true ∧ -(numD m : Int) = V0 := fun h => by
    rw [h] at hB
    have h2 := of_decide_eq_true hB.symm
    rw [h0] at h2
    have h3 := neg_true s.data.toList m hm (by rw [← list_bs (numS _), h2])
    rwa [← h0] at h3
  have hb45 : ((s[0].toNat : Int) == 45) = true := by rw [h45]; rfl
  have HP := Lib.hid hp
  have HV0 := Lib.hid h0
  have HBD := Lib.hid hbd
  have H0 := Lib.hid (Since.refl w)
  have HB := Lib.hid hB
  clear hB
  have HV := Lib.hid hV
  clear hV
  have Hmk := Lib.hid hmk
  clear hmk
  have Hm := Lib.hid hm
  clear hm
  have Hml := Lib.hid hml
  clear hml
  clear hp h0 hbd h9 h45
  go_enter Try.func42, Try.ntmps42
  go_wp2
  go_loop [6, 7] (fun n i => ∃ k q : Nat, k + 1 ≤ s.size ∧ i = .int .i64 ((k : Int) + 1) ∧ n = .int .i64 (-(q : Int)) ∧ q ≤ 9223372036854775808 ∧ Hid ((m.take k).all isD = true) ∧ Hid (q = numD (m.take k))) (fun _ i => s.size - (intOf i).toNat)
  case atStart => exact ⟨0, 0, h1, rfl, rfl, by omega, Lib.hid rfl, Lib.hid rfl⟩
  case round =>
    obtain ⟨k, q, hk, rfl, rfl, hq, HA, HQ⟩ := hrel
    by_cases hlt : k + 1 < s.size
    · have hts : numD (m.take (k + 1)) = 10 * q + (s[k + 1].toNat - 48) := by rw [Hmk.out k hlt, numD_snoc, HQ.out]
      have has : (m.take (k + 1)).all isD = isD s[k + 1] := by
        rw [Hmk.out k hlt, List.all_append, HA.out]; simp
      have hc := s[k + 1].toNat_lt
      have hle := numD_take m (k + 1)
      have hcall := fun W => qval s[k + 1].toNat hc _ rfl W
      by_cases c1 : 48 ≤ s[k + 1].toNat ∧ s[k + 1].toNat ≤ 57
      · have hd : isD s[k + 1] = true := by unfold isD; simp [c1.1, c1.2]
        have hv := val_dig s[k + 1].toNat c1
        obtain ⟨D, hD⟩ : ∃ D : Nat, D = s[k + 1].toNat - 48 := ⟨_, rfl⟩
        have hDv : (s[k + 1].toNat : Int) - 48 = (D : Int) := by omega
        have hD9 : D ≤ 9 := by omega
        rw [hv, hDv] at hcall
        rw [← hD] at hts
        obtain ⟨c1, c2⟩ := c1
        obtain ⟨T, hT⟩ : ∃ T : Nat, T = (9223372036854775808 - D) / 10 := ⟨_, rfl⟩
        have e1 : (-9223372036854775808 + (D : Int)).tdiv 10 = -(T : Int) := by
          rw [show (-9223372036854775808 + (D : Int)) = -((9223372036854775808 - D : Nat) : Int) from by omega, Int.neg_tdiv, Int.tdiv_eq_ediv_of_nonneg (by omega), hT]
          omega
        by_cases hov : 10 * q + D ≤ 9223372036854775808
        · have hno : q ≤ T := by omega
          have hT2 : T ≤ 922337203685477580 := by omega
          have Hd := Lib.hid hd
          clear hd
          have Hv := Lib.hid hv
          clear hv
          have Hcall := Lib.hid hcall
          clear hcall
          have Hts := Lib.hid hts
          clear hts
          have Has := Lib.hid has
          clear has
          have Hle := Lib.hid hle
          clear hle
          have HD := Lib.hid hD
          clear hD
          have HDv := Lib.hid hDv
          clear hDv
          have HT := Lib.hid hT
          clear hT
          clear c1 c2
          go_wp2_with fail
          refine (Hcall.out _).mono ?_
          rintro e w1 ⟨rfl, rfl⟩
          go_wp2_with fail
          go_round
          case rel => exact ⟨k + 1, 10 * q + D, by omega, by go_num, by first | go_num | (congr 1; omega), by omega, Lib.hid (by rw [Has.out, Hd.out]), Lib.hid Hts.out.symm⟩
          case measure => simp [intOf]; omega
        · have hyes : T < q := by omega
          have hB0 : B = false := by
            cases hBB : B with
            | false => rfl
            | true =>
              exfalso
              have h2 := (HP.out hBB).2
              have h3 := HBD.out.1
              omega
          have hV0 : V = 0 := by rw [HV.out, hB0]; rfl
          subst hB0 hV0
          have Hd := Lib.hid hd
          clear hd
          have Hv := Lib.hid hv
          clear hv
          have Hcall := Lib.hid hcall
          clear hcall
          have Hts := Lib.hid hts
          clear hts
          have Has := Lib.hid has
          clear has
          have Hle := Lib.hid hle
          clear hle
          have HD := Lib.hid hD
          clear hD
          have HDv := Lib.hid hDv
          clear hDv
          have HT := Lib.hid hT
          clear hT
          clear c1 c2 hov
          go_wp2_with fail
          refine (Hcall.out _).mono ?_
          rintro e w1 ⟨rfl, rfl⟩
          go_wp2_with fail
          go_ret2
          exact ⟨rfl, H0.out⟩
      · have hd : isD s[k + 1] = false := by unfold isD; simp; omega
        have hv := val_not s[k + 1].toNat c1
        have hB0 : B = false := by
          cases hBB : B with
          | false => rfl
          | true =>
            exfalso
            have h2 := all_take _ (k + 1) (HP.out hBB).1
            rw [has, hd] at h2
            cases h2
        have hV0 : V = 0 := by rw [HV.out, hB0]; rfl
        subst hB0 hV0
        obtain ⟨v, hvv⟩ : ∃ v, v = val s[k + 1].toNat := ⟨_, rfl⟩
        rw [← hvv] at hv hcall
        have Hvv := Lib.hid hvv
        clear hvv
        have Hcall := Lib.hid hcall
        clear hcall
        have Hts := Lib.hid hts
        clear hts
        have Has := Lib.hid has
        clear has
        have Hd := Lib.hid hd
        clear hd
        have Hle := Lib.hid hle
        clear hle
        clear c1
        rcases hv with hv | hv
        · go_wp2_with fail
          refine (Hcall.out _).mono ?_
          rintro e w1 ⟨rfl, rfl⟩
          go_wp2_with fail
          go_ret2
          exact ⟨rfl, H0.out⟩
        · have hv0 : ¬ v < 0 := by omega
          go_wp2_with fail
          refine (Hcall.out _).mono ?_
          rintro e w1 ⟨rfl, rfl⟩
          go_wp2_with fail
          go_ret2
          exact ⟨rfl, H0.out⟩
    · have hqf : -(q : Int) = -(numD m : Nat) := by rw [HQ.out, List.take_of_length_le (by have := Hml.out; omega)]
      have HQF := Lib.hid hqf
      clear hqf
      go_wp2_with fail
      refine (num_any (-(q : Int)) (by omega) _ rfl).calls H0.out ?_
      intro w1 hW
      have HW := Lib.hid hW
      clear hW
      by_cases hE : bs (numS (-(q : Int))) = s
      · have hl : numS (-(q : Int)) = s.data.toList := by rw [← hE]; rfl
        have hq2 : V0 = (-(q : Int)) := by rw [HV0.out, ← hl]; exact unV_numS _ (by omega)
        have hB0 : B = true := by rw [HB.out, hq2]; exact decide_eq_true hE
        have hV0 : V = (-(q : Int)) := by rw [HV.out, hB0, hq2]; rfl
        have hst := str_eq_f hE
        subst hB0 hV0
        have HE := Lib.hid hE
        clear hE
        have Hl := Lib.hid hl
        clear hl
        have Hq2 := Lib.hid hq2
        clear hq2
        go_wp2_with fail
        go_ret2
        exact ⟨rfl, HW.out⟩
      · have hB0 : B = false := by
          cases hBB : B with
          | false => rfl
          | true =>
            exfalso
            have h2 := HP.out hBB
            have h3 := HB.out
            rw [hBB] at h3
            have h4 := of_decide_eq_true h3.symm
            exact hE (by rw [← h4, ← h2.2, ← HQF.out])
        have hst := str_ne_t hE
        have hV0 : V = 0 := by rw [HV.out, hB0]; rfl
        subst hB0 hV0
        have HE := Lib.hid hE
        clear hE
        go_wp2_with fail
        go_ret2
        exact ⟨rfl, HW.out⟩

end RefDig
end Go.Proofs.Ytldipjlepofdgaa
