/- The law HeadShort: of a head's bytes none can be left out at the end; no conditions. -/
import Derived.Test.YtlcicpdnakmdnaaRows
import Derived.WalkKit
import Derived.ProofKit
import Derived.OpenShut
import Derived.Lib.Hide
import Derived.Lib.SmallJoins
import Derived.Test.YtlcicpdnakmdnaaHeadAwake
import Derived.Test.YtlcicpdnakmdnaaHeadL
namespace Go.Proofs.Ytlcicpdnakmdnaa.headShort
open Go.ChangeShapes Go.WideShapes Go.ChangeAt Go.RowKit

set_option maxRecDepth 100000 in
set_option maxHeartbeats 2000000 in
theorem core_no (c t n : Int) (b : Bool) (q : Int) (hq0 : 0 ≤ q) (hq : q ≤ 255) (c1 : Mak 10 #[.agg #[.int .i64 c, .int .i64 t, .bool b, .int .i64 n]] (.tuple #[.string ⟨#[]⟩, .int .i64 1])) (w : World) :
    Calls Try.prog 5 #[.agg #[.int .i64 c, .int .i64 t, .bool b, .int .i64 n], .int .u8 q] w fun e w' => e = .returned (.bool true) ∧ Since w w' := by
  have H0 := Lib.hid ((Since.refl w).alloc (.cells #[.int .i64 c, .int .i64 t, .bool b, .int .i64 n] 23))
  go_enter Try.func5, Try.ntmps5
  go_wp2_with fail
  refine (c1).calls H0.out ?_
  intro w1 h1
  have H1 := Lib.hid h1
  clear h1
  go_wp2_with fail
  refine (Head.awake_mak).calls H1.out ?_
  intro w2 h2
  have H2 := Lib.hid h2
  clear h2
  go_wp2_with fail
  go_ret
  exact ⟨rfl, H2.out⟩

set_option maxRecDepth 100000 in
set_option maxHeartbeats 2000000 in
theorem core_yes (c t n : Int) (b : Bool) (q : Int) (hq0 : 0 ≤ q) (hq : q ≤ 255) (X : ByteArray) (hX : 0 < X.size) (hX2 : X.size ≤ 7) (c1 : Mak 10 #[.agg #[.int .i64 c, .int .i64 t, .bool b, .int .i64 n]] (.tuple #[.string X, .int .i64 0]))
    (c2 : Mak 12 #[.string (X.extract 0 (q.toNat % X.size))] (.tuple #[.agg #[.int .i64 0, .int .i64 0, .bool false, .int .i64 0], .int .i64 0, .int .i64 5])) (w : World) :
    Calls Try.prog 5 #[.agg #[.int .i64 c, .int .i64 t, .bool b, .int .i64 n], .int .u8 q] w fun e w' => e = .returned (.bool true) ∧ Since w w' := by
  have H0 := Lib.hid ((Since.refl w).alloc (.cells #[.int .i64 c, .int .i64 t, .bool b, .int .i64 n] 23))
  have hne := some_bytes_f X hX
  obtain ⟨m, hm⟩ : ∃ m : Nat, m = q.toNat % X.size := ⟨_, rfl⟩
  have hml : m < X.size := by rw [hm]; exact Nat.mod_lt _ hX
  have hqm : q.tmod (X.size : Int) = (m : Int) := by
    rw [Int.tmod_eq_emod_of_nonneg hq0, hm, Int.natCast_emod, Int.toNat_of_nonneg hq0]
  rw [← hm] at c2
  clear hm
  go_enter Try.func5, Try.ntmps5
  go_wp2_with fail
  refine (c1).calls H0.out ?_
  intro w1 h1
  have H1 := Lib.hid h1
  clear h1
  go_wp2_with fail
  refine (c2).calls H1.out ?_
  intro w2 h2
  have H2 := Lib.hid h2
  clear h2
  go_wp2_with fail
  refine Head.awake_mak.calls0 ?_
  intro w3 h3
  have H3 : Hid (Since w w3) := Lib.hid (Since.step (H2.out.alloc _) h3)
  clear h3
  go_wp2_with fail
  go_ret
  exact ⟨rfl, H3.out⟩

theorem walk (a0_0 a0_1 : Int) (a0_2 : Bool) (a0_3 a1 : Int) (w0_0 : (Lit.int .i64 a0_0).wf = true) (w0_1 : (Lit.int .i64 a0_1).wf = true) (w0_3 : (Lit.int .i64 a0_3).wf = true) (w1 : (Lit.int .u8 a1).wf = true) (w : World) :
    Calls Try.prog 5 #[.agg #[.int .i64 a0_0, .int .i64 a0_1, .bool a0_2, .int .i64 a0_3], .int .u8 a1] w fun e w' => e = .returned (.bool true) ∧ Below w.heap.size w w' := by
  obtain ⟨b1, t1⟩ := u8_of_wf w1
  by_cases h : Head.okH a0_0 a0_1 a0_3
  · have h' := h
    obtain ⟨g1, g2, g3, g4, g5, g6⟩ := h'
    obtain ⟨c, rfl⟩ := Int.eq_ofNat_of_zero_le g1
    obtain ⟨t, rfl⟩ := Int.eq_ofNat_of_zero_le g3
    obtain ⟨n, rfl⟩ := Int.eq_ofNat_of_zero_le g5
    have hl : (Head.encL c t a0_2 n).length ≤ 7 ∧ 0 < (Head.encL c t a0_2 n).length := by
      unfold Head.encL Head.tagL Head.lenL Head.seg
      simp only [List.length_append]
      constructor
      · split <;> (try split) <;> (try split) <;> (try split) <;> (try split) <;> simp
      · split <;> (try split) <;> (try split) <;> (try split) <;> (try split) <;> simp
    have hd := Head.dec_mak ((bs (Head.encL c t a0_2 n)).extract 0 (a1.toNat % (bs (Head.encL c t a0_2 n)).size)) (by simp; rw [size_bs]; omega) (Head.decV (Head.none0, 0, 5)) (by
      rw [ext_list, list_bs, size_bs, Nat.sub_zero, List.drop_zero, Head.dec_cut c t n a0_2 (by omega) (by omega) (by omega) _ (Nat.mod_lt _ hl.2)])
    exact core_yes c t n a0_2 a1 b1 t1 _ (by rw [size_bs]; exact hl.2) (by rw [size_bs]; exact hl.1) (Head.enc_ok c t n a0_2 (by omega) (by omega) (by omega) _ rfl) hd w
  · exact core_no _ _ _ _ a1 b1 t1 (Head.enc_no _ _ _ a0_2 h) w

theorem own : ownKnob Try.prog.godebug = none := by kernel_rfl

set_option maxRecDepth 100000 in
theorem lifted (os : Os) (started : os.Started) (H : Type) (enc : TypeId × Value → H) :
    ReturnsInHanded {} Try.checked os 5 .any (Rows.headShortSpec.pre6 enc Try.prog Try.f5 Rows.headShortRow.domain false) (Rows.headShortSpec.post enc Try.prog Try.f5 false true false false) := by
  refine returnsInHanded_of_change (C := Try.checked) own started (by kernel_rfl) Try.func5
    (ChangeSpec.witness6 (enc := enc) (C := Try.checked) false ⟨#[], #[.agg #[.int .i64 0, .int .i64 0, .bool false, .int .i64 0], .int .u8 0], []⟩ 8 (by kernel_rfl) (by kernel_rfl) (by kernel_rfl) (by kernel_rfl)) ?_
  intro W base args ds gs before hval0 hW hcnd _
  have hval : ∀ (j : Nat) t v, Try.f5.params[j]? = some t → args[j]? = some v → Value.okWide Try.prog W .any base t v := hval0
  have hW' := hW
  obtain ⟨p, q, hA0, hV, rfl, hfz, hnd⟩ := hW
  have hA : DataW.TrodAll enc Try.prog W 0 (fun _ => true) true Try.f5.params.toList args.toList ds p := hA0
  rw [Try.params5] at hA hval
  obtain ⟨v0, vs0, d0, ds0, p0, q0, hargs, rfl, rfl, h0, r0⟩ := trodAll_cons hA
  obtain ⟨v1, vs1, d1, ds1, p1, q1, rfl, rfl, rfl, h1, r1⟩ := trodAll_cons r0
  obtain ⟨rfl, rfl, rfl⟩ := trodAll_nil r1
  obtain rfl : args = #[v0, v1] := by cases args; simp_all
  obtain ⟨rfl, rfl⟩ := trodVars_none hV
  obtain ⟨c0_0, c0_1, c0_2, c0_3, y0_0, y0_1, y0_2, y0_3, m0, rfl, rfl, rfl, hy0_0, hy0_1, hy0_2, hy0_3⟩ := Go.Joins.open_agg4 Try.underlying23 (by kernel_rfl) (by kernel_rfl) (hval 0 23 v0 rfl rfl) h0
  obtain ⟨a0_0, e0_0, rfl, w0_0⟩ := DataW.trod_int Try.underlying3 hy0_0
  simp only [List.cons.injEq, and_true] at e0_0
  subst e0_0
  obtain ⟨a0_1, e0_1, rfl, w0_1⟩ := DataW.trod_int Try.underlying3 hy0_1
  simp only [List.cons.injEq, and_true] at e0_1
  subst e0_1
  obtain ⟨a0_2, e0_2, rfl⟩ := DataW.trod_bool Try.underlying4 hy0_2
  simp only [List.cons.injEq, and_true] at e0_2
  subst e0_2
  obtain ⟨a0_3, e0_3, rfl, w0_3⟩ := DataW.trod_int Try.underlying3 hy0_3
  simp only [List.cons.injEq, and_true] at e0_3
  subst e0_3
  obtain ⟨a1, rfl, rfl, rfl, w1⟩ := open_int Try.underlying5 (hval 1 5 v1 rfl rfl) h1
  clear hA0 hval0
  simp only [List.append_nil] at hW'
  refine (walk a0_0 a0_1 a0_2 a0_3 a1 w0_0 w0_1 w0_3 w1 W).mono fun e W' ⟨he, hg⟩ => ?_
  subst he
  exact ⟨_, rfl, _, _, _, _, _, [], hW', (trodAll_cons_mk (shut_bool Try.underlying4 _) trodAll_mk0), (trodAll_cons_mk (Go.Joins.shut_agg4 (y0 := (.lit (.int .i64 a0_0), [])) (y1 := (.lit (.int .i64 a0_1), [])) (y2 := (.lit (.bool a0_2), [])) (y3 := (.lit (.int .i64 a0_3), [])) Try.underlying23 (by kernel_rfl) (by kernel_rfl) (Go.Joins.field_of_Trod (shut_int Try.underlying3 w0_0) rfl) (Go.Joins.field_of_Trod (shut_int Try.underlying3 w0_1) rfl) (Go.Joins.field_of_Trod (shut_bool Try.underlying4 _) rfl) (Go.Joins.field_of_Trod (shut_int Try.underlying3 w0_3) rfl)) (trodAll_cons_mk (shut_int Try.underlying5 w1) trodAll_mk0)), rfl, hg.frame _, fun h => by cases h⟩

theorem over : Rows.headShortRow.holds Try.pinned (OpenSpec.ofChange Rows.headShortSpec) :=
  OpenClaim.holds_of_wide 5 Try.f5 rfl rfl rfl rfl rfl rfl rfl ⟨rfl, rfl, rfl, rfl, rfl⟩ rfl rfl rfl rfl rfl (by kernel_rfl) Try.func5 (by kernel_rfl)
    (of_decide_eq_true (by kernel_rfl)) (by unfold Func.isWrapper; first | (rw [if_pos (by decide +kernel)]; kernel_rfl) | (rw [if_neg (by decide +kernel)]; exact ⟨rfl, rfl⟩))
    (fun os started H enc _ => lifted os started H enc)

theorem proved : Rows.HeadShortSaid :=
  over

end Go.Proofs.Ytlcicpdnakmdnaa.headShort
