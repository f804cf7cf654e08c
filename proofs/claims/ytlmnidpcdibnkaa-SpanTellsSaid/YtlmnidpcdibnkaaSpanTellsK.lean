/- The law SpanTells: any two numbers are a span, or none, with the bytes that the document says; no conditions. -/
import Derived.Test.YtlmnidpcdibnkaaRows
import Derived.WalkKit
import Derived.ProofKit
import Derived.OpenShut
import Derived.Lib.Hide
import Derived.Test.YtlmnidpcdibnkaaSp9
namespace Go.Proofs.Ytlmnidpcdibnkaa.spanTells
open Go.ChangeShapes Go.WideShapes Go.ChangeAt Go.RowKit
open Span Flt

set_option maxRecDepth 100000 in
set_option maxHeartbeats 4000000 in
theorem core_no (s : ByteArray) (a b n : Int) (l1 : (s.size : Int) ≤ 500) (c1 : Ret 10 #[.int .i64 a, .int .i64 b] (.complex .f64 0 0)) (c2 : Ret 11 #[.int .i64 a, .int .i64 b] (.bool false)) (w : World) :
    Calls Try.prog 3 #[.string s, .int .i64 a, .int .i64 b, .int .i64 n] w fun x w' => x = .returned (.bool true) ∧ Since w w' := by
  have H0 := Lib.hid (Since.refl w)
  have t1 : decide ((500 : Int) < (s.size : Int)) = false := decide_eq_false (by omega)
  have o1 : (FloatKind.f64.format.order 0 0 == some .eq) = true := by decide +kernel
  go_enter Try.func3, Try.ntmps3
  go_wp2_with fail
  refine (c1).calls ?_
  go_wp2_with fail
  refine (c2).calls ?_
  go_wp2_with fail
  refine awake_mak.calls H0.out ?_
  intro w1 h1
  have H1 := Lib.hid h1
  clear h1
  go_wp2_with fail
  go_ret
  exact ⟨rfl, H1.out⟩
set_option maxRecDepth 100000 in
set_option maxHeartbeats 4000000 in
theorem core_shift (s X : ByteArray) (a b n e f : Int) (A B C D : Nat) (l1 : (s.size : Int) ≤ 500) (c1 : Ret 10 #[.int .i64 a, .int .i64 b] (.complex .f64 A B)) (c2 : Ret 11 #[.int .i64 a, .int .i64 b] (.bool true))
    (c3 : Ret 12 #[.int .i64 a, .int .i64 b, .int .i64 n] (.tuple #[.int .i64 e, .int .i64 f, .bool true])) (c4 : Ret 13 #[.complex .f64 A B, .int .i64 n] (.complex .f64 C D))
    (c5 : Ret 14 #[.complex .f64 C D] (.int .i64 e)) (c6 : Ret 15 #[.complex .f64 C D] (.int .i64 f))
    (c7 : Ret 16 #[.complex .f64 A B] (.bool true)) (c8 : Ret 14 #[.complex .f64 A B] (.int .i64 a)) (c9 : Ret 15 #[.complex .f64 A B] (.int .i64 b))
    (c10 : Ret 17 #[.string s, .complex .f64 A B] (.string X)) (c11 : Ret 18 #[.string s, .int .i64 a, .int .i64 b] (.string X)) (w : World) :
    Calls Try.prog 3 #[.string s, .int .i64 a, .int .i64 b, .int .i64 n] w fun x w' => x = .returned (.bool true) ∧ Since w w' := by
  have H0 := Lib.hid (Since.refl w)
  have t1 : decide ((500 : Int) < (s.size : Int)) = false := decide_eq_false (by omega)
  go_enter Try.func3, Try.ntmps3
  go_wp2_with fail
  refine (c1).calls ?_
  go_wp2_with fail
  refine (c2).calls ?_
  go_wp2_with fail
  refine (c3).calls ?_
  go_wp2_with fail
  refine (c4).calls ?_
  go_wp2_with fail
  refine (c5).calls ?_
  go_wp2_with fail
  refine (c6).calls ?_
  go_wp2_with fail
  refine (c7).calls ?_
  go_wp2_with fail
  refine (c8).calls ?_
  go_wp2_with fail
  refine (c9).calls ?_
  go_wp2_with fail
  refine (c10).calls ?_
  go_wp2_with fail
  refine (c11).calls ?_
  go_wp2_with fail
  refine awake_mak.calls H0.out ?_
  intro w1 h1
  have H1 := Lib.hid h1
  clear h1
  go_wp2_with fail
  go_ret
  exact ⟨rfl, H1.out⟩
set_option maxRecDepth 100000 in
set_option maxHeartbeats 4000000 in
theorem core_stay (s X : ByteArray) (a b n e f : Int) (A B : Nat) (l1 : (s.size : Int) ≤ 500) (c1 : Ret 10 #[.int .i64 a, .int .i64 b] (.complex .f64 A B)) (c2 : Ret 11 #[.int .i64 a, .int .i64 b] (.bool true))
    (c3 : Ret 12 #[.int .i64 a, .int .i64 b, .int .i64 n] (.tuple #[.int .i64 e, .int .i64 f, .bool false])) (c4 : Ret 13 #[.complex .f64 A B, .int .i64 n] (.complex .f64 0 0))
    (c7 : Ret 16 #[.complex .f64 A B] (.bool true)) (c8 : Ret 14 #[.complex .f64 A B] (.int .i64 a)) (c9 : Ret 15 #[.complex .f64 A B] (.int .i64 b))
    (c10 : Ret 17 #[.string s, .complex .f64 A B] (.string X)) (c11 : Ret 18 #[.string s, .int .i64 a, .int .i64 b] (.string X)) (w : World) :
    Calls Try.prog 3 #[.string s, .int .i64 a, .int .i64 b, .int .i64 n] w fun x w' => x = .returned (.bool true) ∧ Since w w' := by
  have H0 := Lib.hid (Since.refl w)
  have t1 : decide ((500 : Int) < (s.size : Int)) = false := decide_eq_false (by omega)
  have o1 : (FloatKind.f64.format.order 0 0 == some .eq) = true := by decide +kernel
  go_enter Try.func3, Try.ntmps3
  go_wp2_with fail
  refine (c1).calls ?_
  go_wp2_with fail
  refine (c2).calls ?_
  go_wp2_with fail
  refine (c3).calls ?_
  go_wp2_with fail
  refine (c4).calls ?_
  go_wp2_with fail
  refine (c7).calls ?_
  go_wp2_with fail
  refine (c8).calls ?_
  go_wp2_with fail
  refine (c9).calls ?_
  go_wp2_with fail
  refine (c10).calls ?_
  go_wp2_with fail
  refine (c11).calls ?_
  go_wp2_with fail
  refine awake_mak.calls H0.out ?_
  intro w1 h1
  have H1 := Lib.hid h1
  clear h1
  go_wp2_with fail
  go_ret
  exact ⟨rfl, H1.out⟩
set_option maxRecDepth 100000 in
set_option maxHeartbeats 4000000 in
theorem core_big (s : ByteArray) (a b n : Int) (hb : 500 < s.size) (w : World) :
    Calls Try.prog 3 #[.string s, .int .i64 a, .int .i64 b, .int .i64 n] w fun x w' => x = .returned (.bool true) ∧ Since w w' := by
  have H0 := Lib.hid (Since.refl w)
  have t_s : decide ((500 : Int) < (s.size : Int)) = true := decide_eq_true (by omega)
  clear hb
  go_enter Try.func3, Try.ntmps3
  go_wp2_with fail
  refine awake_mak.calls H0.out ?_
  intro w1 h1
  have H1 := Lib.hid h1
  clear h1
  go_wp2_with fail
  go_ret
  exact ⟨rfl, H1.out⟩
set_option maxRecDepth 100000 in
theorem walk (s : ByteArray) (a b n : Int) (_w0 : s.size ≤ maxLen) (_w1 : (Lit.int .i64 a).wf = true) (_w2 : (Lit.int .i64 b).wf = true) (w3 : (Lit.int .i64 n).wf = true) (w : World) :
    Calls Try.prog 3 #[.string s, .int .i64 a, .int .i64 b, .int .i64 n] w fun e w' => e = .returned (.bool true) ∧ Below w.heap.size w w' := by
  by_cases hb : 500 < s.size
  · exact core_big s a b n hb w
  · by_cases hm : MayD a b
    · have hm2 := hm
      obtain ⟨m1, m2, m3⟩ := hm2
      obtain ⟨x, rfl⟩ := Int.eq_ofNat_of_zero_le m1
      obtain ⟨y, rfl⟩ := Int.eq_ofNat_of_zero_le (show 0 ≤ b by omega)
      have hs : Sp x y := ⟨by omega, by omega⟩
      have c4 := shift_ret x y n hs (i64_of_wf w3)
      have c3 := rshift_ret x y n hs
      by_cases hq : MayD (x + n) (y + n)
      · rw [if_pos hq] at c4
        rw [if_pos hq, if_pos hq, decide_eq_true hq] at c3
        obtain ⟨q1, q2, q3⟩ := hq
        obtain ⟨x2, hx2⟩ := Int.eq_ofNat_of_zero_le q1
        obtain ⟨y2, hy2⟩ := Int.eq_ofNat_of_zero_le (show 0 ≤ (y : Int) + n by omega)
        rw [hx2, hy2] at c3 c4
        have hs2 : Sp x2 y2 := ⟨by omega, by omega⟩
        exact core_shift s _ _ _ _ _ _ _ _ _ _ (by omega) (of_yes x y hs) (rmay_ret _ _ _ (decide_eq_true hm).symm) c3 c4 (from_ret _ _ hs2) (to_ret _ _ hs2) (may_sp hs) (from_ret _ _ hs) (to_ret _ _ hs) (cut_ret s x y hs (by omega) _ rfl) (rcut_ret s x y hs _ rfl) w
      · rw [if_neg hq] at c4
        rw [if_neg hq, if_neg hq, decide_eq_false hq] at c3
        exact core_stay s _ _ _ _ _ _ _ _ (by omega) (of_yes x y hs) (rmay_ret _ _ _ (decide_eq_true hm).symm) c3 c4 (may_sp hs) (from_ret _ _ hs) (to_ret _ _ hs) (cut_ret s x y hs (by omega) _ rfl) (rcut_ret s x y hs _ rfl) w
    · exact core_no s a b n (by omega) (of_no a b hm) (rmay_ret a b _ (decide_eq_false hm).symm) w

set_option maxRecDepth 100000 in
theorem own : ownKnob Try.prog.godebug = none := by kernel_rfl

set_option maxRecDepth 100000 in
theorem lifted (os : Os) (started : os.Started) (H : Type) (enc : TypeId × Value → H) :
    ReturnsInHanded {} Try.checked os 3 .any (Rows.spanTellsSpec.pre6 enc Try.prog Try.f3 Rows.spanTellsRow.domain false) (Rows.spanTellsSpec.post enc Try.prog Try.f3 false true false false) := by
  refine returnsInHanded_of_change (C := Try.checked) own started (by kernel_rfl) Try.func3
    (ChangeSpec.witness6 (enc := enc) (C := Try.checked) false ⟨#[], #[.string ⟨#[]⟩, .int .i64 0, .int .i64 0, .int .i64 0], []⟩ 8 (by kernel_rfl) (by kernel_rfl) (by kernel_rfl) (by kernel_rfl)) ?_
  intro W base args ds gs before hval0 hW hcnd _
  have hval : ∀ (j : Nat) t v, Try.f3.params[j]? = some t → args[j]? = some v → Value.okWide Try.prog W .any base t v := hval0
  have hW' := hW
  obtain ⟨p, q, hA0, hV, rfl, hfz, hnd⟩ := hW
  have hA : DataW.TrodAll enc Try.prog W 0 (fun _ => true) true Try.f3.params.toList args.toList ds p := hA0
  rw [Try.params3] at hA hval
  obtain ⟨v0, vs0, d0, ds0, p0, q0, hargs, rfl, rfl, h0, r0⟩ := trodAll_cons hA
  obtain ⟨v1, vs1, d1, ds1, p1, q1, rfl, rfl, rfl, h1, r1⟩ := trodAll_cons r0
  obtain ⟨v2, vs2, d2, ds2, p2, q2, rfl, rfl, rfl, h2, r2⟩ := trodAll_cons r1
  obtain ⟨v3, vs3, d3, ds3, p3, q3, rfl, rfl, rfl, h3, r3⟩ := trodAll_cons r2
  obtain ⟨rfl, rfl, rfl⟩ := trodAll_nil r3
  obtain rfl : args = #[v0, v1, v2, v3] := by cases args; simp_all
  obtain ⟨rfl, rfl⟩ := trodVars_none hV
  obtain ⟨a0, rfl, rfl, rfl, w0⟩ := Go.ChangeMaps.open_string Try.underlying9 (hval 0 9 v0 rfl rfl) h0
  obtain ⟨a1, rfl, rfl, rfl, w1⟩ := open_int Try.underlying3 (hval 1 3 v1 rfl rfl) h1
  obtain ⟨a2, rfl, rfl, rfl, w2⟩ := open_int Try.underlying3 (hval 2 3 v2 rfl rfl) h2
  obtain ⟨a3, rfl, rfl, rfl, w3⟩ := open_int Try.underlying3 (hval 3 3 v3 rfl rfl) h3
  clear hA0 hval0
  simp only [List.append_nil] at hW'
  refine (walk a0 a1 a2 a3 w0 w1 w2 w3 W).mono fun e W' ⟨he, hg⟩ => ?_
  subst he
  exact ⟨_, rfl, _, _, _, _, _, [], hW', (trodAll_cons_mk (shut_bool Try.underlying4 _) trodAll_mk0), (trodAll_cons_mk (Go.ChangeMaps.shut_string Try.underlying9 w0) (trodAll_cons_mk (shut_int Try.underlying3 w1) (trodAll_cons_mk (shut_int Try.underlying3 w2) (trodAll_cons_mk (shut_int Try.underlying3 w3) trodAll_mk0)))), rfl, hg.frame _, fun h => by cases h⟩

set_option maxRecDepth 100000 in
theorem over : Rows.spanTellsRow.holds Try.pinned (OpenSpec.ofChange Rows.spanTellsSpec) :=
  OpenClaim.holds_of_wide 3 Try.f3 rfl rfl rfl rfl rfl rfl rfl ⟨rfl, rfl, rfl, rfl, rfl⟩ rfl rfl rfl rfl rfl (by kernel_rfl) Try.func3 (by kernel_rfl)
    (of_decide_eq_true (by kernel_rfl)) (by unfold Func.isWrapper; first | (rw [if_pos (by decide +kernel)]; kernel_rfl) | (rw [if_neg (by decide +kernel)]; exact ⟨rfl, rfl⟩))
    (fun os started H enc _ => lifted os started H enc)

theorem proved : Rows.SpanTellsSaid :=
  over

end Go.Proofs.Ytlmnidpcdibnkaa.spanTells
