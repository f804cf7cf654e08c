/- whole.Unbig, whole.Wide, and the law's awake. -/
import Derived.Test.YtlcicpdnakmdnaaWhole
namespace Go.Proofs.Ytlcicpdnakmdnaa
open Go.RowKit
namespace Whole
open Oct (trimL)

theorem trimL_cons (x : UInt8) (l : List UInt8) : trimL (x :: l) = if x = 0 then trimL l else x :: l := by
  unfold Oct.trimL
  rw [List.dropWhile_cons]
  by_cases h : x = 0
  · simp [h]
  · simp [h]
theorem trimL_idem (l : List UInt8) : trimL (trimL l) = trimL l := by
  induction l with
  | nil => rfl
  | cons x l ih =>
    rw [trimL_cons]
    by_cases h : x = 0
    · rw [if_pos h]; exact ih
    · rw [if_neg h, trimL_cons, if_neg h]
theorem bigT_cons (x : UInt8) (l : List UInt8) : bigT (x :: l) = if 128 ≤ x.toNat then 0 :: x :: l else x :: l := rfl
/-- which contents are those of a number that is not below 0 -/
def posB (l : List UInt8) : Bool := rightL l && decide ((l.getD 0 0).toNat < 128)
theorem trimL_head (l : List UInt8) (x : UInt8) (m : List UInt8) (h : trimL l = x :: m) : x ≠ 0 := by
  induction l with
  | nil => cases h
  | cons y l ih =>
    rw [trimL_cons] at h
    by_cases hy : y = 0
    · rw [if_pos hy] at h; exact ih h
    · rw [if_neg hy] at h
      have := List.head_eq_of_cons_eq h
      rw [← this]; exact hy
theorem z0 : (0 : UInt8).toNat = 0 := rfl
theorem nat0 (x : UInt8) (h : x ≠ 0) : x.toNat ≠ 0 := fun h2 => h (UInt8.toNat_inj.1 h2)
theorem big_pos (l : List UInt8) : bigL l = l ↔ posB l = true := by
  unfold bigL
  cases l with
  | nil => simp [Oct.trimL, bigT, posB, rightL]
  | cons a l =>
    rw [trimL_cons]
    by_cases ha : a = 0
    · subst ha
      rw [if_pos rfl]
      cases l with
      | nil => simp [Oct.trimL, bigT, posB, rightL]
      | cons b l =>
        rw [trimL_cons]
        by_cases hb : b = 0
        · subst hb
          rw [if_pos rfl]
          constructor
          · intro h
            exfalso
            cases ht : trimL l with
            | nil => rw [ht] at h; simp [bigT] at h
            | cons x m =>
              rw [ht, bigT_cons] at h
              have hx := trimL_head l x m ht
              have hlen : m.length + 1 ≤ l.length := by
                have h9 : (trimL l).length ≤ l.length := (List.dropWhile_sublist (fun x : UInt8 => x == 0) (l := l)).length_le
                rw [ht] at h9; exact h9
              have h8 := congrArg List.length h
              split at h8 <;> simp at h8 <;> omega
          · intro h
            exfalso
            unfold posB rightL at h
            simp at h
        · rw [if_neg hb, bigT_cons]
          by_cases h8 : 128 ≤ b.toNat
          · rw [if_pos h8]
            refine ⟨fun _ => ?_, fun _ => rfl⟩
            unfold posB rightL
            simp
            omega
          · rw [if_neg h8]
            constructor
            · intro h
              exfalso
              exact hb (List.head_eq_of_cons_eq h)
            · intro h
              exfalso
              unfold posB rightL at h
              simp at h
              omega
    · rw [if_neg ha, bigT_cons]
      have ha0 := nat0 a ha
      by_cases h8 : 128 ≤ a.toNat
      · rw [if_pos h8]
        constructor
        · intro h
          exfalso
          have h9 := congrArg List.length h
          simp at h9
        · intro h
          exfalso
          unfold posB at h
          simp at h
          omega
      · rw [if_neg h8]
        refine ⟨fun _ => ?_, fun _ => rfl⟩
        unfold posB
        cases l with
        | nil => simp [rightL]; omega
        | cons b l => simp [rightL, ha0]; omega

set_option maxRecDepth 100000 in
set_option maxHeartbeats 2000000 in
theorem unbig_mak (s : ByteArray) (hm : s.size ≤ 100000) (B : Bool) (V : ByteArray) (hB : B = posB s.data.toList) (hV : V = if B = true then bs (trimL s.data.toList) else ⟨#[]⟩) : Mak 23 #[.string s] (.tuple #[.string V, .bool B]) := by
  intro w
  have c1 := Oct.trim_ret s (by omega) _ rfl
  have hTs := trimL_size s
  have c2 := big_mak (bs (trimL s.data.toList)) (by omega) _ rfl
  have he : bigL (bs (trimL s.data.toList)).data.toList = bigL s.data.toList := by
    show bigT (trimL (trimL s.data.toList)) = _
    rw [trimL_idem]; rfl
  rw [he] at c2
  obtain ⟨T, hT⟩ : ∃ T, T = bs (trimL s.data.toList) := ⟨_, rfl⟩
  rw [← hT] at c1 c2 hV
  obtain ⟨C, hC⟩ : ∃ C, C = bs (bigL s.data.toList) := ⟨_, rfl⟩
  rw [← hC] at c2
  have H0 := Lib.hid (Since.refl w)
  by_cases hp : posB s.data.toList = true
  · have hCs : C = s := by rw [hC, (big_pos _).2 hp, bs_list]
    rw [hp] at hB
    subst hB
    rw [if_pos rfl] at hV
    subst hV
    subst hCs
    clear hp hC hT hTs he
    go_enter Try.func23, Try.ntmps23
    go_wp2_with fail
    refine (c1).calls ?_
    go_wp2_with fail
    refine (c2).calls H0.out ?_
    intro w1 h1
    have H1 := Lib.hid h1
    clear h1
    go_wp2_with fail
    go_ret2
    exact ⟨rfl, H1.out⟩
  · have hCs : C ≠ s := fun h => hp ((big_pos _).1 (by rw [← list_bs (bigL _), ← hC, h]))
    have hB2 : B = false := by rw [hB]; cases h : posB s.data.toList with
      | true => exact absurd h hp
      | false => rfl
    have hst := str_ne_t hCs
    subst hB2
    rw [if_neg (by decide)] at hV
    subst hV
    clear hp hC hT hTs he hB
    have HCs := Lib.hid hCs
    clear hCs
    go_enter Try.func23, Try.ntmps23
    go_wp2_with fail
    refine (c1).calls ?_
    go_wp2_with fail
    refine (c2).calls H0.out ?_
    intro w1 h1
    have H1 := Lib.hid h1
    clear h1
    go_wp2_with fail
    go_ret2
    exact ⟨rfl, H1.out⟩

set_option maxRecDepth 100000 in
set_option maxHeartbeats 2000000 in
theorem runbig_ret (s : ByteArray) (hm : s.size ≤ 100000) (B : Bool) (V : ByteArray) (hB : B = posB s.data.toList) (hV : V = if B = true then bs (trimL s.data.toList) else ⟨#[]⟩) : Ret 24 #[.string s] (.tuple #[.string V, .bool B]) := by
  intro w
  have c1 := RefOct.trim_ret s (by omega) _ rfl
  have c2 := rright_ret s (by omega) _ rfl
  obtain ⟨T, hT⟩ : ∃ T, T = bs (trimL s.data.toList) := ⟨_, rfl⟩
  rw [← hT] at c1 hV
  clear hT
  by_cases hr : rightL s.data.toList = true
  · have hpos : 0 < s.size := by
      apply Classical.byContradiction
      intro h
      have h0 : s.data.toList = [] := List.eq_nil_of_length_eq_zero (by have h9 : s.size = s.data.toList.length := rfl; omega)
      rw [h0] at hr
      cases hr
    have h0 := at0 s hpos
    have hlt := s[0].toNat_lt
    rw [hr] at c2
    unfold posB at hB
    rw [hr, h0, Bool.true_and] at hB
    clear hr h0
    by_cases h8 : s[0].toNat < 128
    · rw [decide_eq_true h8] at hB
      subst hB
      rw [if_pos rfl] at hV
      subst hV
      have h7 : s[0].toNat ≤ 127 := by omega
      go_enter Try.func24, Try.ntmps24
      go_wp2_with fail
      refine (c2).calls ?_
      go_wp2_with fail
      refine (c1).calls ?_
      go_wp2_with fail
      go_ret2
      exact ⟨rfl, rfl⟩
    · rw [decide_eq_false h8] at hB
      subst hB
      rw [if_neg (by decide)] at hV
      subst hV
      have h7 : 127 < s[0].toNat := by omega
      go_enter Try.func24, Try.ntmps24
      go_wp2_with fail
      refine (c2).calls ?_
      go_wp2_with fail
      go_ret2
      exact ⟨rfl, rfl⟩
  · have hr2 : rightL s.data.toList = false := by cases h : rightL s.data.toList with
      | true => exact absurd h hr
      | false => rfl
    rw [hr2] at c2
    unfold posB at hB
    rw [hr2, Bool.false_and] at hB
    subst hB
    rw [if_neg (by decide)] at hV
    subst hV
    clear hr hr2
    go_enter Try.func24, Try.ntmps24
    go_wp2_with fail
    refine (c2).calls ?_
    go_wp2_with fail
    go_ret2
    exact ⟨rfl, rfl⟩

theorem z_both (k : Nat) (hk : k ≤ 65535) : ∃ Z : ByteArray, Z = bs (List.replicate k 0) ∧ Mak 42 #[.int .i64 (k : Int)] (.string Z) ∧ Mak 43 #[.int .i64 (k : Int)] (.string Z) := by
  by_cases h : k = 0
  · subst h
    have h2 : Ret 42 #[.int .i64 ((0 : Nat) : Int)] (.string ⟨#[]⟩) := fun w => Oct.zeros_no 0 w (Or.inl (by decide))
    exact ⟨⟨#[]⟩, rfl, h2.mak, (RefOct.zeros_no 0 (Or.inl (by decide))).mak⟩
  · have he : strOfNums (List.replicate k 0) = bs (List.replicate k 0) := ba_ext (by rw [nums_list, list_bs]; simp)
    exact ⟨_, he, fun w => Oct.zeros_yes k w (by omega) (by omega), RefOct.zeros_yes k (by omega) (by omega)⟩

set_option maxRecDepth 100000 in
set_option maxHeartbeats 2000000 in
theorem wide_both (s : ByteArray) (n : Int) (hm : s.size ≤ 100000) (hn : -9223372036854775808 ≤ n ∧ n ≤ 9223372036854775807) (B : Bool) (V : ByteArray) (hB : B = decide (((trimL s.data.toList).length : Int) ≤ n ∧ n ≤ 65535))
    (hV : V = if B = true then bs (List.replicate (n.toNat - (trimL s.data.toList).length) 0 ++ trimL s.data.toList) else ⟨#[]⟩) :
    Mak 25 #[.string s, .int .i64 n] (.tuple #[.string V, .bool B]) ∧ Mak 26 #[.string s, .int .i64 n] (.tuple #[.string V, .bool B]) := by
  have c1 := Oct.trim_ret s (by omega) _ rfl
  have d1 := RefOct.trim_ret s (by omega) _ rfl
  have hTs := trimL_size s
  have hlen : (trimL s.data.toList).length = (bs (trimL s.data.toList)).size := rfl
  have hlst : trimL s.data.toList = (bs (trimL s.data.toList)).data.toList := rfl
  obtain ⟨T, hT⟩ : ∃ T, T = bs (trimL s.data.toList) := ⟨_, rfl⟩
  rw [hlen, hlst] at hV
  rw [hlen] at hB
  rw [← hT] at c1 d1 hTs hB hV
  obtain ⟨hn1, hn2⟩ := hn
  clear hlen hlst hT
  by_cases h : (T.size : Int) ≤ n ∧ n ≤ 65535
  · rw [decide_eq_true h] at hB
    subst hB
    rw [if_pos rfl] at hV
    obtain ⟨h1, h2⟩ := h
    obtain ⟨k, hk⟩ : ∃ k : Nat, n - (T.size : Int) = (k : Int) := ⟨(n - T.size).toNat, by omega⟩
    have hk2 : k ≤ 65535 := by omega
    obtain ⟨Z, hZ, z1, z2⟩ := z_both k hk2
    have hVV : V = Z ++ T := by
      rw [hV, show n.toNat - (bs T.data.toList).size = k by rw [bs_list]; omega]
      exact ba_ext (by rw [app_list, hZ, list_bs, list_bs])
    have hZs : Z.size = k := by rw [hZ, size_bs, List.length_replicate]
    have hsz : ¬ 9223372036854775807 < Z.size + T.size := by omega
    subst hVV
    clear hV hZ
    have hlit : ∀ w2 : World, Calls Try.prog 41 #[.slice (some ⟨w2.heap.size, 0, none⟩) 2 2] (w2.alloc (.cells #[.string Z, .string T] 9)) fun e w' => e = .returned (.string (Z ++ T)) ∧ Below w2.heap.size w2 w' := fun w2 => by
      have h9 : (Z ++ T).size = Z.size + T.size := by
        have h8 := congrArg List.length (app_list Z T)
        rw [List.length_append] at h8
        exact h8
      exact Oct.join_lit w2 [Z, T] 2 rfl _ rfl _ (ba_ext (by rw [app_list, list_bs]; simp [Oct.cat])) (by omega) (by decide)
    have HL := Lib.hid hlit
    have Hk := Lib.hid hk
    clear hk
    have HZs := Lib.hid hZs
    clear hZs
    have Hlit := Lib.hid hlit
    clear hlit
    constructor
    · intro w
      have H0 := Lib.hid (Since.refl w)
      go_enter Try.func25, Try.ntmps25
      go_wp2_with fail
      refine (c1).calls ?_
      go_wp2_with fail
      rw [Hk.out]
      refine (z1).calls H0.out ?_
      intro w1 h1
      have H1 := Lib.hid h1
      clear h1
      go_wp2_with fail
      refine (HL.out w1).mono ?_
      rintro e w2 ⟨rfl, hb⟩
      have H2 := Lib.hid (H1.out.step hb)
      clear hb
      go_wp2_with fail
      go_ret2
      exact ⟨rfl, H2.out⟩
    · intro w
      have H0 := Lib.hid (Since.refl w)
      go_enter Try.func26, Try.ntmps26
      go_wp2_with fail
      refine (d1).calls ?_
      go_wp2_with fail
      rw [Hk.out]
      refine (z2).calls H0.out ?_
      intro w1 h1
      have H1 := Lib.hid h1
      clear h1
      go_wp2_with fail
      go_ret2
      exact ⟨rfl, H1.out⟩
  · rw [decide_eq_false h] at hB
    subst hB
    rw [if_neg (by decide)] at hV
    subst hV
    by_cases h1 : n < (T.size : Int)
    · clear h
      constructor
      · intro w
        go_enter Try.func25, Try.ntmps25
        go_wp2_with fail
        refine (c1).calls ?_
        go_wp2_with fail
        go_ret2
        exact ⟨rfl, Since.refl w⟩
      · intro w
        go_enter Try.func26, Try.ntmps26
        go_wp2_with fail
        refine (d1).calls ?_
        go_wp2_with fail
        go_ret2
        exact ⟨rfl, Since.refl w⟩
    · have h2 : 65535 < n := by omega
      have h3 : (T.size : Int) ≤ n := by omega
      clear h h1
      constructor
      · intro w
        go_enter Try.func25, Try.ntmps25
        go_wp2_with fail
        refine (c1).calls ?_
        go_wp2_with fail
        go_ret2
        exact ⟨rfl, Since.refl w⟩
      · intro w
        go_enter Try.func26, Try.ntmps26
        go_wp2_with fail
        refine (d1).calls ?_
        go_wp2_with fail
        go_ret2
        exact ⟨rfl, Since.refl w⟩

set_option maxRecDepth 100000 in
set_option maxHeartbeats 2000000 in
theorem awake_mak : Mak 16 #[] (.bool true) := by
  intro w
  have H0 := Lib.hid (Since.refl w)
  have c1 := dec_ret ⟨#[255, 127]⟩ (by decide) true (-129) (by decide +kernel) (by decide +kernel)
  have c2 := dec_ret ⟨#[0, 127]⟩ (by decide) false 0 (by decide +kernel) (by decide +kernel)
  have c3 := enc_mak 128 128 (by decide) (by decide) (by decide) ⟨#[0, 128]⟩ (by decide +kernel)
  have c4 := enc_mak (-1) 18446744073709551615 (by decide) (by decide) (by decide) ⟨#[255]⟩ (by decide +kernel)
  have c5 := big_mak ⟨#[128]⟩ (by decide) ⟨#[0, 128]⟩ (by decide +kernel)
  have c6 := right_ret ⟨#[0]⟩ (by decide) true (by decide +kernel)
  go_enter Try.func16, Try.ntmps16
  go_wp2_with fail
  refine (c1).calls ?_
  go_wp2_with fail
  refine (c2).calls ?_
  go_wp2_with fail
  refine (c3).calls H0.out ?_
  intro w1 h1
  have H1 := Lib.hid h1
  clear h1
  go_wp2_with fail
  refine (c4).calls H1.out ?_
  intro w2 h2
  have H2 := Lib.hid h2
  clear h2
  go_wp2_with fail
  refine (c5).calls H2.out ?_
  intro w3 h3
  have H3 := Lib.hid h3
  clear h3
  go_wp2_with fail
  refine (c6).calls ?_
  go_wp2_with fail
  go_ret
  exact ⟨rfl, H3.out⟩
end Whole
end Go.Proofs.Ytlcicpdnakmdnaa
