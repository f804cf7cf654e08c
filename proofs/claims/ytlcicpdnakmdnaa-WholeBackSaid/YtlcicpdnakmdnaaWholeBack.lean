/- The law WholeBack: for all numbers and bytes, what was written is read, what is read is written so again; no conditions. -/
import Derived.Test.YtlcicpdnakmdnaaRows
import Derived.WalkKit
import Derived.ProofKit
import Derived.OpenShut
import Derived.Lib.Hide
import Derived.Test.YtlcicpdnakmdnaaWhole2
namespace Go.Proofs.Ytlcicpdnakmdnaa.wholeBack
open Go.ChangeShapes Go.WideShapes Go.ChangeAt Go.RowKit

open Oct (trimL)
theorem trim_big (l : List UInt8) : trimL (Whole.bigL l) = trimL l := by
  unfold Whole.bigL
  cases ht : trimL l with
  | nil => rfl
  | cons x m =>
    have hx := Whole.trimL_head l x m ht
    rw [Whole.bigT_cons]
    split
    · rw [Whole.trimL_cons, if_pos rfl, Whole.trimL_cons, if_neg hx]
    · rw [Whole.trimL_cons, if_neg hx]
theorem big_big (l : List UInt8) : Whole.posB (Whole.bigL l) = true := by
  rw [← Whole.big_pos]
  show Whole.bigT (trimL (Whole.bigL l)) = _
  rw [trim_big]; rfl
theorem trim_pad (l : List UInt8) : List.replicate (l.length - (trimL l).length) 0 ++ trimL l = l := by
  induction l with
  | nil => rfl
  | cons x l ih =>
    have h9 : (trimL l).length ≤ l.length := (List.dropWhile_sublist (fun x : UInt8 => x == 0) (l := l)).length_le
    rw [Whole.trimL_cons]
    by_cases h : x = 0
    · rw [if_pos h, List.length_cons, show l.length + 1 - (trimL l).length = (l.length - (trimL l).length) + 1 by omega, List.replicate_succ, List.cons_append, ih, h]
    · rw [if_neg h]; simp

set_option maxRecDepth 100000 in
set_option maxHeartbeats 8000000 in
theorem core (n m : Int) (c s : ByteArray) (hc : c.size ≤ 200) (hs : s.size ≤ 200) (X Y p B T : ByteArray) (y : Int) (k q : Bool) (hne : n = m ∧ X = Y ∨ n ≠ m ∧ X ≠ Y)
    (c1 : Mak 19 #[.int .i64 n] (.string X)) (c2 : Ret 17 #[.string X] (.tuple #[.int .i64 n, .bool true])) (c3 : Mak 19 #[.int .i64 m] (.string Y))
    (c4 : Ret 17 #[.string c] (.tuple #[.int .i64 y, .bool k])) (cy : k = false ∨ k = true ∧ Mak 19 #[.int .i64 y] (.string c))
    (c8 : Mak 23 #[.string c] (.tuple #[.string p, .bool q])) (cp : q = false ∨ q = true ∧ Mak 27 #[.string p] (.string c))
    (c10 : Mak 27 #[.string s] (.string B)) (c11 : Mak 23 #[.string B] (.tuple #[.string T, .bool true])) (c12 : Mak 25 #[.string T, .int .i64 (s.size : Int)] (.tuple #[.string s, .bool true]))
    (c13 : Ret 21 #[.string B] (.bool true)) (w : World) :
    Calls Try.prog 8 #[.int .i64 n, .int .i64 m, .string c, .string s] w fun e w' => e = .returned (.bool true) ∧ Since w w' := by
  have H0 := Lib.hid (Since.refl w)
  have bn : (n != n) = false := by simp
  rcases hne with ⟨rfl, rfl⟩ | ⟨hnm, hXY⟩
  · have bn2 : (n == n) = true := by simp
    go_enter Try.func8, Try.ntmps8
    go_wp2_with fail
    refine (c1).calls H0.out ?_
    intro w1 h1
    have H1 := Lib.hid h1
    clear h1
    go_wp2_with fail
    refine (c2).calls ?_
    go_wp2_with fail
    refine (c1).calls H1.out ?_
    intro w2 h2
    have H2 := Lib.hid h2
    clear h2
    go_wp2_with fail
    refine (c3).calls H2.out ?_
    intro w3 h3
    have H3 := Lib.hid h3
    clear h3
    rcases cy with rfl | ⟨rfl, cy⟩
    · go_wp2_with fail
      refine (c4).calls ?_
      go_wp2_with fail
      have H5 := H3
      refine (c8).calls H5.out ?_
      intro w6 h6
      have H6 := Lib.hid h6
      clear h6
      rcases cp with rfl | ⟨rfl, cp⟩
      · go_wp2_with fail
        refine c10.calls H6.out ?_
        intro w7 h7
        have H7 := Lib.hid h7
        clear h7
        go_wp2_with fail
        refine (c11).calls H7.out ?_
        intro w8 h8
        have H8 := Lib.hid h8
        clear h8
        go_wp2_with fail
        refine (c12).calls H8.out ?_
        intro w9 h9
        have H9 := Lib.hid h9
        clear h9
        go_wp2_with fail
        refine (c10).calls H9.out ?_
        intro w10 h10
        have H10 := Lib.hid h10
        clear h10
        go_wp2_with fail
        refine (c13).calls ?_
        go_wp2_with fail
        refine (Whole.awake_mak).calls H10.out ?_
        intro w11 h11
        have H11 := Lib.hid h11
        clear h11
        go_wp2_with fail
        go_ret
        exact ⟨rfl, H11.out⟩
      · go_wp2_with fail
        refine cp.calls H6.out ?_
        intro w66 h66
        have H66 := Lib.hid h66
        clear h66
        go_wp2_with fail
        have H6 := H66
        refine c10.calls H6.out ?_
        intro w7 h7
        have H7 := Lib.hid h7
        clear h7
        go_wp2_with fail
        refine (c11).calls H7.out ?_
        intro w8 h8
        have H8 := Lib.hid h8
        clear h8
        go_wp2_with fail
        refine (c12).calls H8.out ?_
        intro w9 h9
        have H9 := Lib.hid h9
        clear h9
        go_wp2_with fail
        refine (c10).calls H9.out ?_
        intro w10 h10
        have H10 := Lib.hid h10
        clear h10
        go_wp2_with fail
        refine (c13).calls ?_
        go_wp2_with fail
        refine (Whole.awake_mak).calls H10.out ?_
        intro w11 h11
        have H11 := Lib.hid h11
        clear h11
        go_wp2_with fail
        go_ret
        exact ⟨rfl, H11.out⟩
    · go_wp2_with fail
      refine (c4).calls ?_
      go_wp2_with fail
      refine cy.calls H3.out ?_
      intro w5 h5
      have H5 := Lib.hid h5
      clear h5
      go_wp2_with fail
      refine (c8).calls H5.out ?_
      intro w6 h6
      have H6 := Lib.hid h6
      clear h6
      rcases cp with rfl | ⟨rfl, cp⟩
      · go_wp2_with fail
        refine c10.calls H6.out ?_
        intro w7 h7
        have H7 := Lib.hid h7
        clear h7
        go_wp2_with fail
        refine (c11).calls H7.out ?_
        intro w8 h8
        have H8 := Lib.hid h8
        clear h8
        go_wp2_with fail
        refine (c12).calls H8.out ?_
        intro w9 h9
        have H9 := Lib.hid h9
        clear h9
        go_wp2_with fail
        refine (c10).calls H9.out ?_
        intro w10 h10
        have H10 := Lib.hid h10
        clear h10
        go_wp2_with fail
        refine (c13).calls ?_
        go_wp2_with fail
        refine (Whole.awake_mak).calls H10.out ?_
        intro w11 h11
        have H11 := Lib.hid h11
        clear h11
        go_wp2_with fail
        go_ret
        exact ⟨rfl, H11.out⟩
      · go_wp2_with fail
        refine cp.calls H6.out ?_
        intro w66 h66
        have H66 := Lib.hid h66
        clear h66
        go_wp2_with fail
        have H6 := H66
        refine c10.calls H6.out ?_
        intro w7 h7
        have H7 := Lib.hid h7
        clear h7
        go_wp2_with fail
        refine (c11).calls H7.out ?_
        intro w8 h8
        have H8 := Lib.hid h8
        clear h8
        go_wp2_with fail
        refine (c12).calls H8.out ?_
        intro w9 h9
        have H9 := Lib.hid h9
        clear h9
        go_wp2_with fail
        refine (c10).calls H9.out ?_
        intro w10 h10
        have H10 := Lib.hid h10
        clear h10
        go_wp2_with fail
        refine (c13).calls ?_
        go_wp2_with fail
        refine (Whole.awake_mak).calls H10.out ?_
        intro w11 h11
        have H11 := Lib.hid h11
        clear h11
        go_wp2_with fail
        go_ret
        exact ⟨rfl, H11.out⟩
  · have bn2 : (n == m) = false := by rw [beq_eq_false_iff_ne]; exact hnm
    have bX := str_ne_f hXY
    clear hnm hXY
    go_enter Try.func8, Try.ntmps8
    go_wp2_with fail
    refine (c1).calls H0.out ?_
    intro w1 h1
    have H1 := Lib.hid h1
    clear h1
    go_wp2_with fail
    refine (c2).calls ?_
    go_wp2_with fail
    refine (c1).calls H1.out ?_
    intro w2 h2
    have H2 := Lib.hid h2
    clear h2
    go_wp2_with fail
    refine (c3).calls H2.out ?_
    intro w3 h3
    have H3 := Lib.hid h3
    clear h3
    rcases cy with rfl | ⟨rfl, cy⟩
    · go_wp2_with fail
      refine (c4).calls ?_
      go_wp2_with fail
      have H5 := H3
      refine (c8).calls H5.out ?_
      intro w6 h6
      have H6 := Lib.hid h6
      clear h6
      rcases cp with rfl | ⟨rfl, cp⟩
      · go_wp2_with fail
        refine c10.calls H6.out ?_
        intro w7 h7
        have H7 := Lib.hid h7
        clear h7
        go_wp2_with fail
        refine (c11).calls H7.out ?_
        intro w8 h8
        have H8 := Lib.hid h8
        clear h8
        go_wp2_with fail
        refine (c12).calls H8.out ?_
        intro w9 h9
        have H9 := Lib.hid h9
        clear h9
        go_wp2_with fail
        refine (c10).calls H9.out ?_
        intro w10 h10
        have H10 := Lib.hid h10
        clear h10
        go_wp2_with fail
        refine (c13).calls ?_
        go_wp2_with fail
        refine (Whole.awake_mak).calls H10.out ?_
        intro w11 h11
        have H11 := Lib.hid h11
        clear h11
        go_wp2_with fail
        go_ret
        exact ⟨rfl, H11.out⟩
      · go_wp2_with fail
        refine cp.calls H6.out ?_
        intro w66 h66
        have H66 := Lib.hid h66
        clear h66
        go_wp2_with fail
        have H6 := H66
        refine c10.calls H6.out ?_
        intro w7 h7
        have H7 := Lib.hid h7
        clear h7
        go_wp2_with fail
        refine (c11).calls H7.out ?_
        intro w8 h8
        have H8 := Lib.hid h8
        clear h8
        go_wp2_with fail
        refine (c12).calls H8.out ?_
        intro w9 h9
        have H9 := Lib.hid h9
        clear h9
        go_wp2_with fail
        refine (c10).calls H9.out ?_
        intro w10 h10
        have H10 := Lib.hid h10
        clear h10
        go_wp2_with fail
        refine (c13).calls ?_
        go_wp2_with fail
        refine (Whole.awake_mak).calls H10.out ?_
        intro w11 h11
        have H11 := Lib.hid h11
        clear h11
        go_wp2_with fail
        go_ret
        exact ⟨rfl, H11.out⟩
    · go_wp2_with fail
      refine (c4).calls ?_
      go_wp2_with fail
      refine cy.calls H3.out ?_
      intro w5 h5
      have H5 := Lib.hid h5
      clear h5
      go_wp2_with fail
      refine (c8).calls H5.out ?_
      intro w6 h6
      have H6 := Lib.hid h6
      clear h6
      rcases cp with rfl | ⟨rfl, cp⟩
      · go_wp2_with fail
        refine c10.calls H6.out ?_
        intro w7 h7
        have H7 := Lib.hid h7
        clear h7
        go_wp2_with fail
        refine (c11).calls H7.out ?_
        intro w8 h8
        have H8 := Lib.hid h8
        clear h8
        go_wp2_with fail
        refine (c12).calls H8.out ?_
        intro w9 h9
        have H9 := Lib.hid h9
        clear h9
        go_wp2_with fail
        refine (c10).calls H9.out ?_
        intro w10 h10
        have H10 := Lib.hid h10
        clear h10
        go_wp2_with fail
        refine (c13).calls ?_
        go_wp2_with fail
        refine (Whole.awake_mak).calls H10.out ?_
        intro w11 h11
        have H11 := Lib.hid h11
        clear h11
        go_wp2_with fail
        go_ret
        exact ⟨rfl, H11.out⟩
      · go_wp2_with fail
        refine cp.calls H6.out ?_
        intro w66 h66
        have H66 := Lib.hid h66
        clear h66
        go_wp2_with fail
        have H6 := H66
        refine c10.calls H6.out ?_
        intro w7 h7
        have H7 := Lib.hid h7
        clear h7
        go_wp2_with fail
        refine (c11).calls H7.out ?_
        intro w8 h8
        have H8 := Lib.hid h8
        clear h8
        go_wp2_with fail
        refine (c12).calls H8.out ?_
        intro w9 h9
        have H9 := Lib.hid h9
        clear h9
        go_wp2_with fail
        refine (c10).calls H9.out ?_
        intro w10 h10
        have H10 := Lib.hid h10
        clear h10
        go_wp2_with fail
        refine (c13).calls ?_
        go_wp2_with fail
        refine (Whole.awake_mak).calls H10.out ?_
        intro w11 h11
        have H11 := Lib.hid h11
        clear h11
        go_wp2_with fail
        go_ret
        exact ⟨rfl, H11.out⟩

theorem walk (a0 a1 : Int) (a2 a3 : ByteArray) (w0 : (Lit.int .i64 a0).wf = true) (w1 : (Lit.int .i64 a1).wf = true) (w2 : a2.size ≤ maxLen) (w3 : a3.size ≤ maxLen) (w : World) :
    Calls Try.prog 8 #[.int .i64 a0, .int .i64 a1, .string a2, .string a3] w fun e w' => e = .returned (.bool true) ∧ Below w.heap.size w w' := by
  obtain ⟨b0, t0⟩ := i64_of_wf w0
  obtain ⟨b1, t1⟩ := i64_of_wf w1
  unfold maxLen at w2 w3
  by_cases hc : a2.size ≤ 200
  · by_cases hs : a3.size ≤ 200
    · have hd : ∀ n : Int, -9223372036854775808 ≤ n → n ≤ 9223372036854775807 → Whole.decB (RefOct.low (n % 18446744073709551616) (Whole.wid n)) = true ∧ Whole.decV (RefOct.low (n % 18446744073709551616) (Whole.wid n)) = n := fun n h1 h2 => by
        have hb : Whole.decB (RefOct.low (n % 18446744073709551616) (Whole.wid n)) = true := by
          unfold Whole.decB
          rw [Whole.right_low n _ rfl ⟨h1, h2⟩, RefOct.low_len, decide_eq_true (Whole.wid_bd n).2]; rfl
        refine ⟨hb, ?_⟩
        unfold Whole.decV
        rw [if_pos hb]
        exact Whole.sgn_low n _ rfl _ (Whole.wid_bd n).1 (Whole.wid_bd n).2 (Whole.fits_of n _ h1 h2 (Nat.le_refl _) (Whole.wid_bd n).2)
      obtain ⟨e1, e2⟩ := hd a0 b0 t0
      obtain ⟨e3, e4⟩ := hd a1 b1 t1
      have hsz : (bs (RefOct.low (a0 % 18446744073709551616) (Whole.wid a0))).size ≤ 8 := by rw [size_bs, RefOct.low_len]; exact (Whole.wid_bd a0).2
      have cy : Whole.decB a2.data.toList = false ∨ Whole.decB a2.data.toList = true ∧ Mak 19 #[.int .i64 (Whole.decV a2.data.toList)] (.string a2) := by
        cases hB : Whole.decB a2.data.toList with
        | false => exact Or.inl rfl
        | true =>
          right
          refine ⟨rfl, ?_⟩
          unfold Whole.decV
          rw [if_pos hB]
          unfold Whole.decB at hB
          rw [Bool.and_eq_true, decide_eq_true_eq] at hB
          obtain ⟨hr, h8⟩ := hB
          have h1 : 1 ≤ a2.data.toList.length := by
            cases hl : a2.data.toList with
            | nil => rw [hl] at hr; cases hr
            | cons x m => simp
          have hrg := Whole.sgn_range _ h1 h8
          refine Whole.enc_mak _ _ rfl hrg.1 hrg.2 _ ?_
          rw [Whole.wid_sgn _ h1 h8 hr, Whole.low_sgn _ h1 h8, bs_list]
      have cp : Whole.posB a2.data.toList = false ∨ Whole.posB a2.data.toList = true ∧ Mak 27 #[.string (if Whole.posB a2.data.toList = true then bs (trimL a2.data.toList) else ⟨#[]⟩)] (.string a2) := by
        cases hB : Whole.posB a2.data.toList with
        | false => exact Or.inl rfl
        | true =>
          right
          refine ⟨rfl, ?_⟩
          rw [if_pos rfl]
          refine Whole.big_mak _ (by have := Whole.trimL_size a2; omega) _ ?_
          show a2 = bs (Whole.bigT (trimL (trimL a2.data.toList)))
          rw [Whole.trimL_idem]
          have h := (Whole.big_pos a2.data.toList).2 hB
          unfold Whole.bigL at h
          rw [h, bs_list]
      have hbz : (bs (Whole.bigL a3.data.toList)).size ≤ 201 := by
        rw [size_bs]
        have h9 : (trimL a3.data.toList).length ≤ 200 := by
          have := Whole.trimL_size a3
          rw [size_bs] at this
          omega
        unfold Whole.bigL
        cases ht : trimL a3.data.toList with
        | nil => simp [Whole.bigT]
        | cons x m =>
          rw [ht] at h9
          rw [Whole.bigT_cons]
          split <;> simp at h9 ⊢ <;> omega
      have c11 : Mak 23 #[.string (bs (Whole.bigL a3.data.toList))] (.tuple #[.string (bs (trimL a3.data.toList)), .bool true]) :=
        Whole.unbig_mak _ (by omega) true _ (by rw [list_bs, big_big]) (by rw [if_pos rfl, list_bs, trim_big])
      have c12 : Mak 25 #[.string (bs (trimL a3.data.toList)), .int .i64 (a3.size : Int)] (.tuple #[.string a3, .bool true]) := by
        have hT := Whole.trimL_size a3
        rw [size_bs] at hT
        refine (Whole.wide_both _ (a3.size : Int) (by rw [size_bs]; omega) (by omega) true a3 ?_ ?_).1
        · rw [list_bs, Whole.trimL_idem]
          exact (decide_eq_true (by omega)).symm
        · rw [if_pos rfl, list_bs, Whole.trimL_idem, show ((a3.size : Int)).toNat = a3.data.toList.length from rfl, trim_pad, bs_list]
      have c13 : Ret 21 #[.string (bs (Whole.bigL a3.data.toList))] (.bool true) := by
        refine Whole.right_ret _ (by omega) true ?_
        rw [list_bs]
        have h := big_big a3.data.toList
        unfold Whole.posB at h
        rw [Bool.and_eq_true] at h
        exact h.1.symm
      refine core a0 a1 a2 a3 hc hs _ _ _ _ _ _ _ _ ?_ (Whole.enc_mak a0 _ rfl b0 t0 _ rfl) (Whole.dec_ret _ (by omega) true a0 (by rw [list_bs, e1]) (by rw [list_bs, e2])) (Whole.enc_mak a1 _ rfl b1 t1 _ rfl)
        (Whole.dec_ret a2 (by omega) _ _ rfl rfl) cy (Whole.unbig_mak a2 (by omega) _ _ rfl rfl) cp (Whole.big_mak a3 (by omega) _ rfl) c11 c12 c13 w
      by_cases hnm : a0 = a1
      · exact Or.inl ⟨hnm, by rw [hnm]⟩
      · refine Or.inr ⟨hnm, fun h => hnm ?_⟩
        have h2 : RefOct.low (a0 % 18446744073709551616) (Whole.wid a0) = RefOct.low (a1 % 18446744073709551616) (Whole.wid a1) := by rw [← list_bs (RefOct.low (a0 % 18446744073709551616) (Whole.wid a0)), h]; rfl
        rw [← e2, h2, e4]
    · have H0 := Lib.hid (Since.refl w)
      go_enter Try.func8, Try.ntmps8
      go_wp2_with fail
      all_goals
        refine (Whole.awake_mak).calls H0.out ?_
        intro w3 h3
        have H3 := Lib.hid h3
        clear h3
        go_wp2_with fail
        go_ret
        exact ⟨rfl, H3.out⟩
  · have H0 := Lib.hid (Since.refl w)
    go_enter Try.func8, Try.ntmps8
    go_wp2_with fail
    all_goals
      refine (Whole.awake_mak).calls H0.out ?_
      intro w3 h3
      have H3 := Lib.hid h3
      clear h3
      go_wp2_with fail
      go_ret
      exact ⟨rfl, H3.out⟩

theorem own : ownKnob Try.prog.godebug = none := by kernel_rfl

set_option maxRecDepth 100000 in
theorem lifted (os : Os) (started : os.Started) (H : Type) (enc : TypeId × Value → H) :
    ReturnsInHanded {} Try.checked os 8 .any (Rows.wholeBackSpec.pre6 enc Try.prog Try.f8 Rows.wholeBackRow.domain false) (Rows.wholeBackSpec.post enc Try.prog Try.f8 false true false false) := by
  refine returnsInHanded_of_change (C := Try.checked) own started (by kernel_rfl) Try.func8
    (ChangeSpec.witness6 (enc := enc) (C := Try.checked) false ⟨#[], #[.int .i64 0, .int .i64 0, .string ⟨#[]⟩, .string ⟨#[]⟩], []⟩ 8 (by kernel_rfl) (by kernel_rfl) (by kernel_rfl) (by kernel_rfl)) ?_
  intro W base args ds gs before hval0 hW hcnd _
  have hval : ∀ (j : Nat) t v, Try.f8.params[j]? = some t → args[j]? = some v → Value.okWide Try.prog W .any base t v := hval0
  have hW' := hW
  obtain ⟨p, q, hA0, hV, rfl, hfz, hnd⟩ := hW
  have hA : DataW.TrodAll enc Try.prog W 0 (fun _ => true) true Try.f8.params.toList args.toList ds p := hA0
  rw [Try.params8] at hA hval
  obtain ⟨v0, vs0, d0, ds0, p0, q0, hargs, rfl, rfl, h0, r0⟩ := trodAll_cons hA
  obtain ⟨v1, vs1, d1, ds1, p1, q1, rfl, rfl, rfl, h1, r1⟩ := trodAll_cons r0
  obtain ⟨v2, vs2, d2, ds2, p2, q2, rfl, rfl, rfl, h2, r2⟩ := trodAll_cons r1
  obtain ⟨v3, vs3, d3, ds3, p3, q3, rfl, rfl, rfl, h3, r3⟩ := trodAll_cons r2
  obtain ⟨rfl, rfl, rfl⟩ := trodAll_nil r3
  obtain rfl : args = #[v0, v1, v2, v3] := by cases args; simp_all
  obtain ⟨rfl, rfl⟩ := trodVars_none hV
  obtain ⟨a0, rfl, rfl, rfl, w0⟩ := open_int Try.underlying3 (hval 0 3 v0 rfl rfl) h0
  obtain ⟨a1, rfl, rfl, rfl, w1⟩ := open_int Try.underlying3 (hval 1 3 v1 rfl rfl) h1
  obtain ⟨a2, rfl, rfl, rfl, w2⟩ := Go.ChangeMaps.open_string Try.underlying9 (hval 2 9 v2 rfl rfl) h2
  obtain ⟨a3, rfl, rfl, rfl, w3⟩ := Go.ChangeMaps.open_string Try.underlying9 (hval 3 9 v3 rfl rfl) h3
  clear hA0 hval0
  simp only [List.append_nil] at hW'
  refine (walk a0 a1 a2 a3 w0 w1 w2 w3 W).mono fun e W' ⟨he, hg⟩ => ?_
  subst he
  exact ⟨_, rfl, _, _, _, _, _, [], hW', (trodAll_cons_mk (shut_bool Try.underlying4 _) trodAll_mk0), (trodAll_cons_mk (shut_int Try.underlying3 w0) (trodAll_cons_mk (shut_int Try.underlying3 w1) (trodAll_cons_mk (Go.ChangeMaps.shut_string Try.underlying9 w2) (trodAll_cons_mk (Go.ChangeMaps.shut_string Try.underlying9 w3) trodAll_mk0)))), rfl, hg.frame _, fun h => by cases h⟩

theorem over : Rows.wholeBackRow.holds Try.pinned (OpenSpec.ofChange Rows.wholeBackSpec) :=
  OpenClaim.holds_of_wide 8 Try.f8 rfl rfl rfl rfl rfl rfl rfl ⟨rfl, rfl, rfl, rfl, rfl⟩ rfl rfl rfl rfl rfl (by kernel_rfl) Try.func8 (by kernel_rfl)
    (of_decide_eq_true (by kernel_rfl)) (by unfold Func.isWrapper; first | (rw [if_pos (by decide +kernel)]; kernel_rfl) | (rw [if_neg (by decide +kernel)]; exact ⟨rfl, rfl⟩))
    (fun os started H enc _ => lifted os started H enc)

theorem proved : Rows.WholeBackSaid :=
  over

end Go.Proofs.Ytlcicpdnakmdnaa.wholeBack
