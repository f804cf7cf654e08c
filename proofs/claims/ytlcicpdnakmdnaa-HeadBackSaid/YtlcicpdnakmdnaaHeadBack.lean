/- The law HeadBack: a head is read as it was written; what is read is written so again; no conditions. -/
import Derived.Test.YtlcicpdnakmdnaaRows
import Derived.WalkKit
import Derived.ProofKit
import Derived.OpenShut
import Derived.Lib.Hide
import Derived.Lib.SmallJoins
import Derived.Test.YtlcicpdnakmdnaaHeadAwake
import Derived.Test.YtlcicpdnakmdnaaHeadL
namespace Go.Proofs.Ytlcicpdnakmdnaa.headBack
open Go.ChangeShapes Go.WideShapes Go.ChangeAt Go.RowKit

set_option maxRecDepth 100000 in
set_option maxHeartbeats 4000000 in
theorem core_no (c t n : Int) (b : Bool) (s r : ByteArray) (hs : s.size ≤ 200) (hr : r.size ≤ 200) (c1 : Mak 10 #[.agg #[.int .i64 c, .int .i64 t, .bool b, .int .i64 n]] (.tuple #[.string ⟨#[]⟩, .int .i64 1]))
    (e : Int) (he : e ≠ 0) (c3 : Mak 12 #[.string s] (.tuple #[.agg #[.int .i64 0, .int .i64 0, .bool false, .int .i64 0], .int .i64 0, .int .i64 e])) (w : World) :
    Calls Try.prog 4 #[.agg #[.int .i64 c, .int .i64 t, .bool b, .int .i64 n], .string s, .string r] w fun e w' => e = .returned (.bool true) ∧ Since w w' := by
  have H0 := Lib.hid ((Since.refl w).alloc (.cells #[.int .i64 c, .int .i64 t, .bool b, .int .i64 n] 23))
  have heb : (e != 0) = true := by rw [bne_iff_ne]; exact he
  clear he
  go_enter Try.func4, Try.ntmps4
  go_wp2_with fail
  refine (c1).calls H0.out ?_
  intro w1 h1
  have H1 := Lib.hid h1
  clear h1
  go_wp2_with fail
  refine c3.calls0 ?_
  intro w3 h3
  have H3 : Hid (Since w w3) := Lib.hid (Since.step (H1.out) h3)
  clear h3
  go_wp2_with fail
  refine Head.awake_mak.calls0 ?_
  intro w9 h9
  have H9 : Hid (Since w w9) := Lib.hid (Since.step (H3.out.alloc _) h9)
  clear h9
  go_wp2_with fail
  go_ret
  exact ⟨rfl, H9.out⟩

set_option maxRecDepth 100000 in
set_option maxHeartbeats 4000000 in
theorem core_no2 (c t n : Int) (b : Bool) (s r : ByteArray) (hs : s.size ≤ 200) (hr : r.size ≤ 200) (c1 : Mak 10 #[.agg #[.int .i64 c, .int .i64 t, .bool b, .int .i64 n]] (.tuple #[.string ⟨#[]⟩, .int .i64 1]))
    (c' t' n' k : Nat) (b' : Bool) (hk : k ≤ s.size) (c3 : Mak 12 #[.string s] (.tuple #[.agg #[.int .i64 (c' : Int), .int .i64 (t' : Int), .bool b', .int .i64 (n' : Int)], .int .i64 (k : Int), .int .i64 0]))
    (c4 : Mak 10 #[.agg #[.int .i64 (c' : Int), .int .i64 (t' : Int), .bool b', .int .i64 (n' : Int)]] (.tuple #[.string (s.extract 0 k), .int .i64 0])) (w : World) :
    Calls Try.prog 4 #[.agg #[.int .i64 c, .int .i64 t, .bool b, .int .i64 n], .string s, .string r] w fun e w' => e = .returned (.bool true) ∧ Since w w' := by
  have H0 := Lib.hid ((Since.refl w).alloc (.cells #[.int .i64 c, .int .i64 t, .bool b, .int .i64 n] 23))
  have hki : (k : Int) ≤ (s.size : Int) := by omega
  have hq := str_eq_t (rfl : s.extract 0 k = s.extract 0 k)
  go_enter Try.func4, Try.ntmps4
  go_wp2_with fail
  refine (c1).calls H0.out ?_
  intro w1 h1
  have H1 := Lib.hid h1
  clear h1
  go_wp2_with fail
  refine c3.calls0 ?_
  intro w3 h3
  have H3 : Hid (Since w w3) := Lib.hid (Since.step (H1.out) h3)
  clear h3
  go_wp2_with fail
  refine c4.calls0 ?_
  intro w4 h4
  have H4 : Hid (Since w w4) := Lib.hid (Since.step (H3.out.alloc _) h4)
  clear h4
  go_wp2_with fail
  refine Head.awake_mak.calls0 ?_
  intro w9 h9
  have H9 : Hid (Since w w9) := Lib.hid (Since.step (H4.out) h9)
  clear h9
  go_wp2_with fail
  go_ret
  exact ⟨rfl, H9.out⟩
open Head (box4)
set_option maxRecDepth 100000 in
set_option maxHeartbeats 4000000 in
theorem core_yes (c t n : Nat) (b : Bool) (s r : ByteArray) (hs : s.size ≤ 200) (hr : r.size ≤ 200) (X : ByteArray) (hX : X.size ≤ 7) (c1 : Mak 10 #[.agg #[.int .i64 (c : Int), .int .i64 (t : Int), .bool b, .int .i64 (n : Int)]] (.tuple #[.string X, .int .i64 0]))
    (c2 : Mak 12 #[.string (X ++ r)] (.tuple #[.agg #[.int .i64 (c : Int), .int .i64 (t : Int), .bool b, .int .i64 (n : Int)], .int .i64 (X.size : Int), .int .i64 0]))
    (e : Int) (he : e ≠ 0) (c3 : Mak 12 #[.string s] (.tuple #[.agg #[.int .i64 0, .int .i64 0, .bool false, .int .i64 0], .int .i64 0, .int .i64 e])) (w : World) :
    Calls Try.prog 4 #[.agg #[.int .i64 (c : Int), .int .i64 (t : Int), .bool b, .int .i64 (n : Int)], .string s, .string r] w fun e w' => e = .returned (.bool true) ∧ Since w w' := by
  have heb : (e != 0) = true := by rw [bne_iff_ne]; exact he
  clear he
  have hsz : ¬ 9223372036854775807 < X.size + r.size := by omega
  go_enter Try.func4, Try.ntmps4
  go_wp2_with fail
  refine c1.calls0 ?_
  intro w1 h1
  have S1 : Since (w.alloc (.cells #[.int .i64 (c : Int), .int .i64 (t : Int), .bool b, .int .i64 (n : Int)] 23)) w1 := h1
  clear h1
  go_wp2_with fail
  refine c2.calls0 ?_
  intro w2 h2
  have S2 := S1.step h2
  obtain ⟨q0, q1, q2, q3⟩ := box4 S2
  have hlt : w.heap.size < w2.heap.size := by have h9 := Below.size S2; simp at h9; omega
  have H2 : Hid (Since w w2) := Lib.hid (Since.step ((Since.refl w).alloc _) S2)
  clear S1 S2 h2
  go_wp2_with fail
  refine c3.calls0 ?_
  intro w3 h3
  have H3 : Hid (Since w w3) := Lib.hid (Since.step (H2.out.alloc _) h3)
  clear h3
  go_wp2_with fail
  refine Head.awake_mak.calls0 ?_
  intro w9 h9
  have H9 : Hid (Since w w9) := Lib.hid (Since.step (H3.out.alloc _) h9)
  clear h9
  go_wp2_with fail
  go_ret
  exact ⟨rfl, H9.out⟩
set_option maxRecDepth 100000 in
set_option maxHeartbeats 4000000 in
theorem core_yes2 (c t n : Nat) (b : Bool) (s r : ByteArray) (hs : s.size ≤ 200) (hr : r.size ≤ 200) (X : ByteArray) (hX : X.size ≤ 7) (c1 : Mak 10 #[.agg #[.int .i64 (c : Int), .int .i64 (t : Int), .bool b, .int .i64 (n : Int)]] (.tuple #[.string X, .int .i64 0]))
    (c2 : Mak 12 #[.string (X ++ r)] (.tuple #[.agg #[.int .i64 (c : Int), .int .i64 (t : Int), .bool b, .int .i64 (n : Int)], .int .i64 (X.size : Int), .int .i64 0]))
    (c' t' n' k : Nat) (b' : Bool) (hk : k ≤ s.size) (c3 : Mak 12 #[.string s] (.tuple #[.agg #[.int .i64 (c' : Int), .int .i64 (t' : Int), .bool b', .int .i64 (n' : Int)], .int .i64 (k : Int), .int .i64 0]))
    (c4 : Mak 10 #[.agg #[.int .i64 (c' : Int), .int .i64 (t' : Int), .bool b', .int .i64 (n' : Int)]] (.tuple #[.string (s.extract 0 k), .int .i64 0])) (w : World) :
    Calls Try.prog 4 #[.agg #[.int .i64 (c : Int), .int .i64 (t : Int), .bool b, .int .i64 (n : Int)], .string s, .string r] w fun e w' => e = .returned (.bool true) ∧ Since w w' := by
  have hki : (k : Int) ≤ (s.size : Int) := by omega
  have hq := str_eq_t (rfl : s.extract 0 k = s.extract 0 k)
  have hsz : ¬ 9223372036854775807 < X.size + r.size := by omega
  go_enter Try.func4, Try.ntmps4
  go_wp2_with fail
  refine c1.calls0 ?_
  intro w1 h1
  have S1 : Since (w.alloc (.cells #[.int .i64 (c : Int), .int .i64 (t : Int), .bool b, .int .i64 (n : Int)] 23)) w1 := h1
  clear h1
  go_wp2_with fail
  refine c2.calls0 ?_
  intro w2 h2
  have S2 := S1.step h2
  obtain ⟨q0, q1, q2, q3⟩ := box4 S2
  have hlt : w.heap.size < w2.heap.size := by have h9 := Below.size S2; simp at h9; omega
  have H2 : Hid (Since w w2) := Lib.hid (Since.step ((Since.refl w).alloc _) S2)
  clear S1 S2 h2
  go_wp2_with fail
  refine c3.calls0 ?_
  intro w3 h3
  have H3 : Hid (Since w w3) := Lib.hid (Since.step (H2.out.alloc _) h3)
  clear h3
  go_wp2_with fail
  refine c4.calls0 ?_
  intro w4 h4
  have H4 : Hid (Since w w4) := Lib.hid (Since.step (H3.out.alloc _) h4)
  clear h4
  go_wp2_with fail
  refine Head.awake_mak.calls0 ?_
  intro w9 h9
  have H9 : Hid (Since w w9) := Lib.hid (Since.step (H4.out) h9)
  clear h9
  go_wp2_with fail
  go_ret
  exact ⟨rfl, H9.out⟩

theorem walk (a0_0 a0_1 : Int) (a0_2 : Bool) (a0_3 : Int) (a1 a2 : ByteArray) (w0_0 : (Lit.int .i64 a0_0).wf = true) (w0_1 : (Lit.int .i64 a0_1).wf = true) (w0_3 : (Lit.int .i64 a0_3).wf = true) (w1 : a1.size ≤ maxLen) (w2 : a2.size ≤ maxLen) (w : World) :
    Calls Try.prog 4 #[.agg #[.int .i64 a0_0, .int .i64 a0_1, .bool a0_2, .int .i64 a0_3], .string a1, .string a2] w fun e w' => e = .returned (.bool true) ∧ Below w.heap.size w w' := by
  unfold maxLen at w1 w2
  by_cases hs : a1.size ≤ 200 ∧ a2.size ≤ 200
  · obtain ⟨hs, hr⟩ := hs
    have c3 := Head.dec_mak a1 (by omega) _ rfl
    obtain ⟨⟨c', t', b', n'⟩, k, e, hd⟩ : ∃ h k e, Head.dec a1.data.toList = (h, k, e) := ⟨_, _, _, rfl⟩
    rw [hd] at c3
    by_cases he : e = 0
    · subst he
      obtain ⟨g1, g2, g3, g4, g5⟩ := Head.enc_dec _ _ _ hd
      have c4 := Head.enc_ok c' t' n' b' g1 g2 g3 (a1.extract 0 k) (by apply ba_ext; rw [ext_list, list_bs]; exact g5.symm)
      by_cases h : Head.okH a0_0 a0_1 a0_3
      · obtain ⟨i1, i2, i3, i4, i5, i6⟩ := h
        obtain ⟨c, rfl⟩ := Int.eq_ofNat_of_zero_le i1
        obtain ⟨t, rfl⟩ := Int.eq_ofNat_of_zero_le i3
        obtain ⟨n, rfl⟩ := Int.eq_ofNat_of_zero_le i5
        have hl := Head.encL_len c t a0_2 n
        have c2 := Head.dec_mak (bs (Head.encL c t a0_2 n) ++ a2) (by simp; rw [size_bs]; omega) (Head.decV (⟨c, t, a0_2, n⟩, (Head.encL c t a0_2 n).length, 0)) (by rw [app_list, list_bs, Head.dec_enc c t n a0_2 (by omega) (by omega) (by omega)])
        exact core_yes2 c t n a0_2 a1 a2 hs hr _ (by rw [size_bs]; exact hl.1) (Head.enc_ok c t n a0_2 (by omega) (by omega) (by omega) _ rfl) c2 c' t' n' k b' g4 c3 c4 w
      · exact core_no2 _ _ _ a0_2 a1 a2 hs hr (Head.enc_no _ _ _ a0_2 h) c' t' n' k b' g4 c3 c4 w
    · obtain ⟨g1, g2⟩ := Head.dec_bad _ _ _ _ hd he
      subst g2
      cases g1
      have hei : (e : Int) ≠ 0 := by omega
      by_cases h : Head.okH a0_0 a0_1 a0_3
      · obtain ⟨i1, i2, i3, i4, i5, i6⟩ := h
        obtain ⟨c, rfl⟩ := Int.eq_ofNat_of_zero_le i1
        obtain ⟨t, rfl⟩ := Int.eq_ofNat_of_zero_le i3
        obtain ⟨n, rfl⟩ := Int.eq_ofNat_of_zero_le i5
        have hl := Head.encL_len c t a0_2 n
        have c2 := Head.dec_mak (bs (Head.encL c t a0_2 n) ++ a2) (by simp; rw [size_bs]; omega) (Head.decV (⟨c, t, a0_2, n⟩, (Head.encL c t a0_2 n).length, 0)) (by rw [app_list, list_bs, Head.dec_enc c t n a0_2 (by omega) (by omega) (by omega)])
        exact core_yes c t n a0_2 a1 a2 hs hr _ (by rw [size_bs]; exact hl.1) (Head.enc_ok c t n a0_2 (by omega) (by omega) (by omega) _ rfl) c2 (e : Int) hei c3 w
      · exact core_no _ _ _ a0_2 a1 a2 hs hr (Head.enc_no _ _ _ a0_2 h) (e : Int) hei c3 w
  · have H0 := Lib.hid ((Since.refl w).alloc (.cells #[.int .i64 a0_0, .int .i64 a0_1, .bool a0_2, .int .i64 a0_3] 23))
    by_cases h1 : a1.size ≤ 200
    · have h2 : ¬ a2.size ≤ 200 := fun h => hs ⟨h1, h⟩
      clear hs
      go_enter Try.func4, Try.ntmps4
      go_wp2_with fail
      all_goals
        refine (Head.awake_mak).calls H0.out ?_
        intro w3 h3
        have H3 := Lib.hid h3
        clear h3
        go_wp2_with fail
        go_ret
        exact ⟨rfl, H3.out⟩
    · clear hs
      go_enter Try.func4, Try.ntmps4
      go_wp2_with fail
      all_goals
        refine (Head.awake_mak).calls H0.out ?_
        intro w3 h3
        have H3 := Lib.hid h3
        clear h3
        go_wp2_with fail
        go_ret
        exact ⟨rfl, H3.out⟩

theorem own : ownKnob Try.prog.godebug = none := by kernel_rfl

set_option maxRecDepth 100000 in
theorem lifted (os : Os) (started : os.Started) (H : Type) (enc : TypeId × Value → H) :
    ReturnsInHanded {} Try.checked os 4 .any (Rows.headBackSpec.pre6 enc Try.prog Try.f4 Rows.headBackRow.domain false) (Rows.headBackSpec.post enc Try.prog Try.f4 false true false false) := by
  refine returnsInHanded_of_change (C := Try.checked) own started (by kernel_rfl) Try.func4
    (ChangeSpec.witness6 (enc := enc) (C := Try.checked) false ⟨#[], #[.agg #[.int .i64 0, .int .i64 0, .bool false, .int .i64 0], .string ⟨#[]⟩, .string ⟨#[]⟩], []⟩ 8 (by kernel_rfl) (by kernel_rfl) (by kernel_rfl) (by kernel_rfl)) ?_
  intro W base args ds gs before hval0 hW hcnd _
  have hval : ∀ (j : Nat) t v, Try.f4.params[j]? = some t → args[j]? = some v → Value.okWide Try.prog W .any base t v := hval0
  have hW' := hW
  obtain ⟨p, q, hA0, hV, rfl, hfz, hnd⟩ := hW
  have hA : DataW.TrodAll enc Try.prog W 0 (fun _ => true) true Try.f4.params.toList args.toList ds p := hA0
  rw [Try.params4] at hA hval
  obtain ⟨v0, vs0, d0, ds0, p0, q0, hargs, rfl, rfl, h0, r0⟩ := trodAll_cons hA
  obtain ⟨v1, vs1, d1, ds1, p1, q1, rfl, rfl, rfl, h1, r1⟩ := trodAll_cons r0
  obtain ⟨v2, vs2, d2, ds2, p2, q2, rfl, rfl, rfl, h2, r2⟩ := trodAll_cons r1
  obtain ⟨rfl, rfl, rfl⟩ := trodAll_nil r2
  obtain rfl : args = #[v0, v1, v2] := by cases args; simp_all
  obtain ⟨rfl, rfl⟩ := trodVars_none hV
  obtain ⟨c0_0, c0_1, c0_2, c0_3, y0_0, y0_1, y0_2, y0_3, m0, rfl, rfl, rfl, hy0_0, hy0_1, hy0_2, hy0_3⟩ := Go.Joins.open_agg4 Try.underlying23 (by kernel_rfl) (by kernel_rfl) (hval 0 23 v0 rfl rfl) h0
  obtain ⟨a0_0, e0_0, rfl, w0_0⟩ := DataW.trod_int Try.underlying3 hy0_0
  simp only [List.cons.injEq, and_true] at e0_0
  subst e0_0
  obtain ⟨a0_1, e0_1, rfl, w0_1⟩ := DataW.trod_int Try.underlying3 hy0_1
  simp only [List.cons.injEq, and_true] at e0_1
  subst e0_1
  obtain ⟨a0_2, e0_2, rfl⟩ := DataW.trod_bool Try.underlying4 hy0_2
  simp only [List.cons.injEq, and_true] at e0_2
  subst e0_2
  obtain ⟨a0_3, e0_3, rfl, w0_3⟩ := DataW.trod_int Try.underlying3 hy0_3
  simp only [List.cons.injEq, and_true] at e0_3
  subst e0_3
  obtain ⟨a1, rfl, rfl, rfl, w1⟩ := Go.ChangeMaps.open_string Try.underlying9 (hval 1 9 v1 rfl rfl) h1
  obtain ⟨a2, rfl, rfl, rfl, w2⟩ := Go.ChangeMaps.open_string Try.underlying9 (hval 2 9 v2 rfl rfl) h2
  clear hA0 hval0
  simp only [List.append_nil] at hW'
  refine (walk a0_0 a0_1 a0_2 a0_3 a1 a2 w0_0 w0_1 w0_3 w1 w2 W).mono fun e W' ⟨he, hg⟩ => ?_
  subst he
  exact ⟨_, rfl, _, _, _, _, _, [], hW', (trodAll_cons_mk (shut_bool Try.underlying4 _) trodAll_mk0), (trodAll_cons_mk (Go.Joins.shut_agg4 (y0 := (.lit (.int .i64 a0_0), [])) (y1 := (.lit (.int .i64 a0_1), [])) (y2 := (.lit (.bool a0_2), [])) (y3 := (.lit (.int .i64 a0_3), [])) Try.underlying23 (by kernel_rfl) (by kernel_rfl) (Go.Joins.field_of_Trod (shut_int Try.underlying3 w0_0) rfl) (Go.Joins.field_of_Trod (shut_int Try.underlying3 w0_1) rfl) (Go.Joins.field_of_Trod (shut_bool Try.underlying4 _) rfl) (Go.Joins.field_of_Trod (shut_int Try.underlying3 w0_3) rfl)) (trodAll_cons_mk (Go.ChangeMaps.shut_string Try.underlying9 w1) (trodAll_cons_mk (Go.ChangeMaps.shut_string Try.underlying9 w2) trodAll_mk0))), rfl, hg.frame _, fun h => by cases h⟩

theorem over : Rows.headBackRow.holds Try.pinned (OpenSpec.ofChange Rows.headBackSpec) :=
  OpenClaim.holds_of_wide 4 Try.f4 rfl rfl rfl rfl rfl rfl rfl ⟨rfl, rfl, rfl, rfl, rfl⟩ rfl rfl rfl rfl rfl (by kernel_rfl) Try.func4 (by kernel_rfl)
    (of_decide_eq_true (by kernel_rfl)) (by unfold Func.isWrapper; first | (rw [if_pos (by decide +kernel)]; kernel_rfl) | (rw [if_neg (by decide +kernel)]; exact ⟨rfl, rfl⟩))
    (fun os started H enc _ => lifted os started H enc)

theorem proved : Rows.HeadBackSaid :=
  over

end Go.Proofs.Ytlcicpdnakmdnaa.headBack
