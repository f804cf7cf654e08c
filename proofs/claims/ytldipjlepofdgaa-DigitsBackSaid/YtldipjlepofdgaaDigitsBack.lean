/- The law DigitsBack: for all texts and numbers, what was written is read, and what is read is written so again; no conditions. -/
import Derived.Test.YtldipjlepofdgaaRows
import Derived.WalkKit
import Derived.ProofKit
import Derived.OpenShut
import Derived.Lib.Hide
import Derived.Test.YtldipjlepofdgaaDigB
import Derived.Test.YtldipjlepofdgaaUnnum
import Derived.Test.YtldipjlepofdgaaDigitsHex
namespace Go.Proofs.Ytldipjlepofdgaa.digitsBack
open Go.ChangeShapes Go.WideShapes Go.ChangeAt Go.RowKit

theorem digs_len (f : Nat) : ∀ k M : Nat, 1 ≤ k → M < 10 ^ k → (Dig.digs f M).length ≤ k := by
  induction f with
  | zero => intro k M _ _; exact Nat.zero_le _
  | succ f ih =>
    intro k M h1 h2
    unfold Dig.digs
    by_cases hM : M < 10
    · rw [if_pos hM]; exact h1
    · rw [if_neg hM, List.length_append]
      obtain ⟨j, rfl⟩ : ∃ j, k = j + 1 := ⟨k - 1, by omega⟩
      have hj : 1 ≤ j := by
        apply Classical.byContradiction
        intro h
        have : j = 0 := by omega
        subst this
        simp at h2
        omega
      have := ih j (M / 10) hj (by rw [Nat.pow_succ] at h2; omega)
      simp
      omega
theorem numS_len (n : Int) (h : -9223372036854775808 ≤ n ∧ n ≤ 9223372036854775807) : (Dig.numS n).length ≤ 20 := by
  have h1 := digs_len 20 19 n.natAbs (by decide) (Nat.lt_of_le_of_lt (show n.natAbs ≤ 9223372036854775808 by omega) (by decide))
  unfold Dig.numS
  split <;> simp <;> omega

theorem unnum_mak (t : ByteArray) (hm : t.size ≤ 140737488355328) : ∃ z f, Mak 41 #[.string t] (.tuple #[.int .i64 z, .bool f]) ∧ (f = false ∨ f = true ∧ Mak 45 #[.int .i64 z] (.string t)) := by
  by_cases h : 20 < t.size
  · exact ⟨0, false, fun w => Dig.unnum_long t w hm h, Or.inl rfl⟩
  · by_cases hE : bs (Dig.numS (Dig.unV t.data.toList)) = t
    · refine ⟨_, true, fun w => Dig.unnum_short t w (by omega) _ _ true rfl (decide_eq_true hE).symm (if_pos hE).symm, Or.inr ⟨rfl, ?_⟩⟩
      have h := Dig.num_mak _ (Dig.unV_bounds t.data.toList)
      rwa [hE] at h
    · exact ⟨_, false, fun w => Dig.unnum_short t w (by omega) _ _ false rfl (decide_eq_false hE).symm (if_neg hE).symm, Or.inl rfl⟩

theorem unhex_mak (t : ByteArray) (hm : t.size ≤ 500) : ∃ q g, Mak 33 #[.string t] (.tuple #[.string q, .bool g]) ∧ (g = false ∨ g = true ∧ Mak 35 #[.string q] (.string t)) := by
  by_cases h : t.size % 2 = 1
  · exact ⟨⟨#[]⟩, false, fun w => Dig.unhex_odd t w (by omega) h, Or.inl rfl⟩
  · have h2 : t.size = 2 * (t.size / 2) := by omega
    have h9 : t.size = t.data.toList.length := rfl
    cases hok : Dig.okN t.data.toList (t.size / 2) with
    | false => exact ⟨_, false, fun w => Dig.unhex_even t (t.size / 2) w (by omega) h2 _ _ hok.symm rfl, Or.inl rfl⟩
    | true =>
      refine ⟨_, true, fun w => Dig.unhex_even t (t.size / 2) w (by omega) h2 _ _ hok.symm (by rw [if_pos hok]), Or.inr ⟨rfl, fun w => ?_⟩⟩
      have h3 := Dig.hex_any (strOfNums ((List.range (t.size / 2)).map (Dig.pairV t.data.toList))) w (by rw [strOfNums_size]; simp; omega)
      rw [nums_list, Dig.hex_pair t.data.toList (t.size / 2) (by omega) hok, bs_list] at h3
      exact h3

theorem hex_back (s : ByteArray) (hm : s.size ≤ 500) : Mak 33 #[.string (bs (Dig.hexL s.data.toList))] (.tuple #[.string s, .bool true]) := fun w => by
  have h9 : s.size = s.data.toList.length := rfl
  have hl := Dig.hexL_len s.data.toList
  have hok := Dig.ok_hex s.data.toList
  rw [← h9] at hok
  refine Dig.unhex_even _ s.size w (by rw [size_bs, hl]; omega) (by rw [size_bs, hl, h9]) s true hok.symm ?_
  rw [list_bs, if_pos hok, bs_nums, h9, Dig.pair_hex, bs_list]

theorem dec_mak (n width : Int) (b1 : -9223372036854775808 ≤ n ∧ n ≤ 9223372036854775807) (b2 : -9223372036854775808 ≤ width ∧ width ≤ 9223372036854775807) :
    ∃ D, Mak 43 #[.int .i64 n, .int .i64 width] (.string D) ∧ (D = ⟨#[]⟩ ∨ 0 < D.size ∧ (D.size : Int) = width ∧ Ret 39 #[.string D] (.tuple #[.int .i64 n, .bool true])) := by
  by_cases h : n < 0 ∨ width < 1 ∨ 18 < width
  · have h2 : Ret 43 #[.int .i64 n, .int .i64 width] (.string ⟨#[]⟩) := fun w => Dig.dec_out n width w h
    exact ⟨⟨#[]⟩, h2.mak, Or.inl rfl⟩
  · obtain ⟨n, rfl⟩ := Int.eq_ofNat_of_zero_le (show 0 ≤ n by omega)
    obtain ⟨W, rfl⟩ := Int.eq_ofNat_of_zero_le (show 0 ≤ width by omega)
    by_cases hn : n < 10 ^ W
    · have hsz : (strOfNums ((List.range W).map fun i => Dig.dg n (W - 1 - i))).size = W := by rw [strOfNums_size]; simp
      refine ⟨_, fun w => Dig.dec_mid n W w (by omega) (by omega) (by omega) _ (if_pos hn).symm, Or.inr ⟨by rw [hsz]; omega, by rw [hsz], fun w => ?_⟩⟩
      have hl : (strOfNums ((List.range W).map fun i => Dig.dg n (W - 1 - i))).data.toList = (List.range W).map fun i => UInt8.ofNat (Dig.dg n (W - 1 - i)).toNat := by rw [nums_list, List.map_map]; rfl
      refine Dig.undec_in _ w (by rw [hsz]; omega) (by rw [hsz]; omega) n true (by rw [hl, Dig.isD_dec]) ?_
      rw [hl, if_pos (Dig.isD_dec W n), Dig.numD_dec, Nat.mod_eq_of_lt hn]
    · exact ⟨⟨#[]⟩, fun w => Dig.dec_mid n W w (by omega) (by omega) (by omega) _ (if_neg hn).symm, Or.inl rfl⟩

set_option maxRecDepth 100000 in
set_option maxHeartbeats 4000000 in
theorem core (s t : ByteArray) (n width : Int) (hs : s.size ≤ 500) (ht : t.size ≤ 500) (X N D q : ByteArray) (z : Int) (f g : Bool)
    (c1 : Mak 35 #[.string s] (.string X)) (c2 : Mak 33 #[.string X] (.tuple #[.string s, .bool true]))
    (c3 : Mak 45 #[.int .i64 n] (.string N)) (c4 : Mak 41 #[.string N] (.tuple #[.int .i64 n, .bool true]))
    (c5 : Mak 43 #[.int .i64 n, .int .i64 width] (.string D)) (cd : D = ⟨#[]⟩ ∨ 0 < D.size ∧ (D.size : Int) = width ∧ Ret 39 #[.string D] (.tuple #[.int .i64 n, .bool true]))
    (c6 : Mak 41 #[.string t] (.tuple #[.int .i64 z, .bool f])) (cz : f = false ∨ f = true ∧ Mak 45 #[.int .i64 z] (.string t))
    (c7 : Mak 33 #[.string t] (.tuple #[.string q, .bool g])) (cq : g = false ∨ g = true ∧ Mak 35 #[.string q] (.string t)) (w : World) :
    Calls Try.prog 9 #[.string s, .string t, .int .i64 n, .int .i64 width] w fun e w' => e = .returned (.bool true) ∧ Since w w' := by
  have H0 := Lib.hid (Since.refl w)
  have hbn : (n != n) = false := by simp
  go_enter Try.func9, Try.ntmps9
  go_wp2_with fail
  refine (c1).calls H0.out ?_
  intro w1 h1
  have H1 := Lib.hid h1
  clear h1
  go_wp2_with fail
  refine (c2).calls H1.out ?_
  intro w2 h2
  have H2 := Lib.hid h2
  clear h2
  go_wp2_with fail
  refine (c3).calls H2.out ?_
  intro w3 h3
  have H3 := Lib.hid h3
  clear h3
  go_wp2_with fail
  refine (c4).calls H3.out ?_
  intro w4 h4
  have H4 := Lib.hid h4
  clear h4
  go_wp2_with fail
  refine (c5).calls H4.out ?_
  intro w5 h5
  have H5 := Lib.hid h5
  clear h5
  rcases cd with rfl | ⟨hd0, hdw, cd⟩
  · go_wp2_with fail
    refine (c6).calls H5.out ?_
    intro w6 h6
    have H6 := Lib.hid h6
    clear h6
    rcases cz with rfl | ⟨rfl, cz⟩
    · go_wp2_with fail
      refine (c7).calls H6.out ?_
      intro w7 h7
      have H7 := Lib.hid h7
      clear h7
      rcases cq with rfl | ⟨rfl, cq⟩
      · go_wp2_with fail
        refine (Dig.awake_mak).calls H7.out ?_
        intro w8 h8
        have H8 := Lib.hid h8
        clear h8
        go_wp2_with fail
        go_ret
        exact ⟨rfl, H8.out⟩
      · go_wp2_with fail
        refine (cq).calls H7.out ?_
        intro w8 h8
        have H8 := Lib.hid h8
        clear h8
        go_wp2_with fail
        refine (Dig.awake_mak).calls H8.out ?_
        intro w9 h9
        have H9 := Lib.hid h9
        clear h9
        go_wp2_with fail
        go_ret
        exact ⟨rfl, H9.out⟩
    · go_wp2_with fail
      refine cz.calls H6.out ?_
      intro w66 h66
      have H66 := Lib.hid h66
      clear h66
      go_wp2_with fail
      refine (c7).calls H66.out ?_
      intro w7 h7
      have H7 := Lib.hid h7
      clear h7
      rcases cq with rfl | ⟨rfl, cq⟩
      · go_wp2_with fail
        refine (Dig.awake_mak).calls H7.out ?_
        intro w8 h8
        have H8 := Lib.hid h8
        clear h8
        go_wp2_with fail
        go_ret
        exact ⟨rfl, H8.out⟩
      · go_wp2_with fail
        refine (cq).calls H7.out ?_
        intro w8 h8
        have H8 := Lib.hid h8
        clear h8
        go_wp2_with fail
        refine (Dig.awake_mak).calls H8.out ?_
        intro w9 h9
        have H9 := Lib.hid h9
        clear h9
        go_wp2_with fail
        go_ret
        exact ⟨rfl, H9.out⟩
  · have hne := some_bytes D hd0
    have hdb : ((D.size : Int) != width) = false := by rw [hdw]; simp
    have Hdw := Lib.hid hdw
    clear hdw
    go_wp2_with fail
    refine (cd).calls ?_
    go_wp2_with fail
    refine (c6).calls H5.out ?_
    intro w6 h6
    have H6 := Lib.hid h6
    clear h6
    rcases cz with rfl | ⟨rfl, cz⟩
    · go_wp2_with fail
      refine (c7).calls H6.out ?_
      intro w7 h7
      have H7 := Lib.hid h7
      clear h7
      rcases cq with rfl | ⟨rfl, cq⟩
      · go_wp2_with fail
        refine (Dig.awake_mak).calls H7.out ?_
        intro w8 h8
        have H8 := Lib.hid h8
        clear h8
        go_wp2_with fail
        go_ret
        exact ⟨rfl, H8.out⟩
      · go_wp2_with fail
        refine (cq).calls H7.out ?_
        intro w8 h8
        have H8 := Lib.hid h8
        clear h8
        go_wp2_with fail
        refine (Dig.awake_mak).calls H8.out ?_
        intro w9 h9
        have H9 := Lib.hid h9
        clear h9
        go_wp2_with fail
        go_ret
        exact ⟨rfl, H9.out⟩
    · go_wp2_with fail
      refine cz.calls H6.out ?_
      intro w66 h66
      have H66 := Lib.hid h66
      clear h66
      go_wp2_with fail
      refine (c7).calls H66.out ?_
      intro w7 h7
      have H7 := Lib.hid h7
      clear h7
      rcases cq with rfl | ⟨rfl, cq⟩
      · go_wp2_with fail
        refine (Dig.awake_mak).calls H7.out ?_
        intro w8 h8
        have H8 := Lib.hid h8
        clear h8
        go_wp2_with fail
        go_ret
        exact ⟨rfl, H8.out⟩
      · go_wp2_with fail
        refine (cq).calls H7.out ?_
        intro w8 h8
        have H8 := Lib.hid h8
        clear h8
        go_wp2_with fail
        refine (Dig.awake_mak).calls H8.out ?_
        intro w9 h9
        have H9 := Lib.hid h9
        clear h9
        go_wp2_with fail
        go_ret
        exact ⟨rfl, H9.out⟩

theorem walk (a0 a1 : ByteArray) (a2 a3 : Int) (w0 : a0.size ≤ maxLen) (w1 : a1.size ≤ maxLen) (w2 : (Lit.int .i64 a2).wf = true) (w3 : (Lit.int .i64 a3).wf = true) (w : World) :
    Calls Try.prog 9 #[.string a0, .string a1, .int .i64 a2, .int .i64 a3] w fun e w' => e = .returned (.bool true) ∧ Below w.heap.size w w' := by
  have t2 := i64_of_wf w2
  have t3 := i64_of_wf w3
  unfold maxLen at w0 w1
  by_cases hs : a0.size ≤ 500
  · by_cases ht : a1.size ≤ 500
    · obtain ⟨D, d1, d2⟩ := dec_mak a2 a3 t2 t3
      obtain ⟨z, f, z1, z2⟩ := unnum_mak a1 (by omega)
      obtain ⟨q, g, q1, q2⟩ := unhex_mak a1 ht
      refine core a0 a1 a2 a3 hs ht _ _ D q z f g (fun w => Dig.hex_any a0 w (by omega)) (hex_back a0 hs) (Dig.num_mak a2 t2) (fun w => ?_) d1 d2 z1 z2 q1 q2 w
      have hv : Dig.unV (bs (Dig.numS a2)).data.toList = a2 := by rw [list_bs]; exact Dig.unV_numS a2 t2
      exact Dig.unnum_short _ w (by rw [size_bs]; exact numS_len a2 t2) a2 a2 true hv.symm (by simp) (by simp)
    · have H0 := Lib.hid (Since.refl w)
      clear t2 t3
      go_enter Try.func9, Try.ntmps9
      go_wp2_with fail
      all_goals
        refine (Dig.awake_mak).calls H0.out ?_
        intro w3 h3
        have H3 := Lib.hid h3
        clear h3
        go_wp2_with fail
        go_ret
        exact ⟨rfl, H3.out⟩
  · have H0 := Lib.hid (Since.refl w)
    clear t2 t3
    go_enter Try.func9, Try.ntmps9
    go_wp2_with fail
    all_goals
      refine (Dig.awake_mak).calls H0.out ?_
      intro w3 h3
      have H3 := Lib.hid h3
      clear h3
      go_wp2_with fail
      go_ret
      exact ⟨rfl, H3.out⟩

theorem own : ownKnob Try.prog.godebug = none := by kernel_rfl

set_option maxRecDepth 100000 in
theorem lifted (os : Os) (started : os.Started) (H : Type) (enc : TypeId × Value → H) :
    ReturnsInHanded {} Try.checked os 9 .any (Rows.digitsBackSpec.pre6 enc Try.prog Try.f9 Rows.digitsBackRow.domain false) (Rows.digitsBackSpec.post enc Try.prog Try.f9 false true false false) := by
  refine returnsInHanded_of_change (C := Try.checked) own started (by kernel_rfl) Try.func9
    (ChangeSpec.witness6 (enc := enc) (C := Try.checked) false ⟨#[], #[.string ⟨#[]⟩, .string ⟨#[]⟩, .int .i64 0, .int .i64 0], []⟩ 8 (by kernel_rfl) (by kernel_rfl) (by kernel_rfl) (by kernel_rfl)) ?_
  intro W base args ds gs before hval0 hW hcnd _
  have hval : ∀ (j : Nat) t v, Try.f9.params[j]? = some t → args[j]? = some v → Value.okWide Try.prog W .any base t v := hval0
  have hW' := hW
  obtain ⟨p, q, hA0, hV, rfl, hfz, hnd⟩ := hW
  have hA : DataW.TrodAll enc Try.prog W 0 (fun _ => true) true Try.f9.params.toList args.toList ds p := hA0
  rw [Try.params9] at hA hval
  obtain ⟨v0, vs0, d0, ds0, p0, q0, hargs, rfl, rfl, h0, r0⟩ := trodAll_cons hA
  obtain ⟨v1, vs1, d1, ds1, p1, q1, rfl, rfl, rfl, h1, r1⟩ := trodAll_cons r0
  obtain ⟨v2, vs2, d2, ds2, p2, q2, rfl, rfl, rfl, h2, r2⟩ := trodAll_cons r1
  obtain ⟨v3, vs3, d3, ds3, p3, q3, rfl, rfl, rfl, h3, r3⟩ := trodAll_cons r2
  obtain ⟨rfl, rfl, rfl⟩ := trodAll_nil r3
  obtain rfl : args = #[v0, v1, v2, v3] := by cases args; simp_all
  obtain ⟨rfl, rfl⟩ := trodVars_none hV
  obtain ⟨a0, rfl, rfl, rfl, w0⟩ := Go.ChangeMaps.open_string Try.underlying9 (hval 0 9 v0 rfl rfl) h0
  obtain ⟨a1, rfl, rfl, rfl, w1⟩ := Go.ChangeMaps.open_string Try.underlying9 (hval 1 9 v1 rfl rfl) h1
  obtain ⟨a2, rfl, rfl, rfl, w2⟩ := open_int Try.underlying3 (hval 2 3 v2 rfl rfl) h2
  obtain ⟨a3, rfl, rfl, rfl, w3⟩ := open_int Try.underlying3 (hval 3 3 v3 rfl rfl) h3
  clear hA0 hval0
  simp only [List.append_nil] at hW'
  refine (walk a0 a1 a2 a3 w0 w1 w2 w3 W).mono fun e W' ⟨he, hg⟩ => ?_
  subst he
  exact ⟨_, rfl, _, _, _, _, _, [], hW', (trodAll_cons_mk (shut_bool Try.underlying4 _) trodAll_mk0), (trodAll_cons_mk (Go.ChangeMaps.shut_string Try.underlying9 w0) (trodAll_cons_mk (Go.ChangeMaps.shut_string Try.underlying9 w1) (trodAll_cons_mk (shut_int Try.underlying3 w2) (trodAll_cons_mk (shut_int Try.underlying3 w3) trodAll_mk0)))), rfl, hg.frame _, fun h => by cases h⟩

theorem over : Rows.digitsBackRow.holds Try.pinned (OpenSpec.ofChange Rows.digitsBackSpec) :=
  OpenClaim.holds_of_wide 9 Try.f9 rfl rfl rfl rfl rfl rfl rfl ⟨rfl, rfl, rfl, rfl, rfl⟩ rfl rfl rfl rfl rfl (by kernel_rfl) Try.func9 (by kernel_rfl)
    (of_decide_eq_true (by kernel_rfl)) (by unfold Func.isWrapper; first | (rw [if_pos (by decide +kernel)]; kernel_rfl) | (rw [if_neg (by decide +kernel)]; exact ⟨rfl, rfl⟩))
    (fun os started H enc _ => lifted os started H enc)

theorem proved : Rows.DigitsBackSaid :=
  over

end Go.Proofs.Ytldipjlepofdgaa.digitsBack
