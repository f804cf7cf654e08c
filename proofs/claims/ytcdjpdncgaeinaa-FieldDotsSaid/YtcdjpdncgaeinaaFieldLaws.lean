/- The law FieldLaws: for all bytes a, b, c the products commute, associate and distribute, and the inverse and the logarithm are as said; no conditions. -/
import Derived.Test.YtcdjpdncgaeinaaRows
import Derived.WalkKit
import Derived.ProofKit
import Derived.OpenShut
import Derived.Lib.Hide
import Derived.BigQuiet
import Derived.Deep.QuietTactic
import Derived.Test.YtcdjpdncgaeinaaField
namespace Go.Proofs.Ytcdjpdncgaeinaa.fieldLaws
open Go.ChangeShapes Go.WideShapes Go.ChangeAt Go.RowKit
open Go.Proofs.Ytcdjpdncgaeinaa.Field
attribute [local irreducible] Gf.mul Gf.inv Gf.pow Gf.logN Gf.logB Gf.xt

set_option maxRecDepth 100000 in
set_option maxHeartbeats 1000000 in
theorem awake_any (w : World) :
    Calls Try.prog 21 #[] w fun e w' => e = .returned (.bool true) ∧ w = w' := by
  have e1 : Gf.logN 3 = 1 := by decide +kernel
  have e2 : Gf.logB 3 = true := by decide +kernel
  have e3 : Gf.mul 87 131 = 193 := by decide +kernel
  have e4 : Gf.xt 128 = 27 := by decide +kernel
  have e5 : Gf.inv 1 = 1 := by decide +kernel
  have e6 : Gf.pow 2 8 = 27 := by decide +kernel
  go_enter Try.func21, Try.ntmps21
  go_wp2_with (first
    | (go_at_call 9; refine (log_any _ _ (by omega) (by omega)).mono ?_; rintro e w' ⟨rfl, rfl⟩)
    | (go_at_call 15; refine (mul_any _ _ _ (by omega) (by omega) (by omega) (by omega)).mono ?_; rintro e w' ⟨rfl, rfl⟩)
    | (go_at_call 13; refine (twice_any _ _ (by omega) (by omega)).mono ?_; rintro e w' ⟨rfl, rfl⟩)
    | (go_at_call 19; refine (inv_any _ _ (by omega) (by omega)).mono ?_; rintro e w' ⟨rfl, rfl⟩)
    | (go_at_call 17; refine (pow_any _ _ _ (by omega) (by omega) (by omega)).mono ?_; rintro e w' ⟨rfl, rfl⟩)
    | (go_at_call 11; refine (add_any _ _ _ (by omega) (by omega) (by omega) (by omega)).mono ?_; rintro e w' ⟨rfl, rfl⟩))
  go_ret
  exact ⟨rfl, rfl⟩

theorem u8_of_wf {n : Int} (h : (Lit.int .u8 n).wf = true) : 0 ≤ n ∧ n ≤ 255 := by
  simpa [Lit.wf, IntKind.min, IntKind.max, IntKind.signed, IntKind.bits] using h

/-- a call that only reckons, and returns v -/
def Ret (f : Nat) (args : Array Value) (v : Value) : Prop := ∀ w, Calls Try.prog f args w fun e w' => e = .returned v ∧ w = w'

set_option maxRecDepth 100000 in
set_option maxHeartbeats 1000000 in
theorem core1 (a b c p p2 q x y r l i : Int) (hz : (a != 0) = true) (hl0 : 0 ≤ l) (hl : l ≤ 254)
    (m1 : Ret 15 #[.int .u8 a, .int .u8 b] (.int .u8 p))
    (m2 : Ret 15 #[.int .u8 b, .int .u8 a] (.int .u8 p))
    (m3 : Ret 15 #[.int .u8 b, .int .u8 c] (.int .u8 x))
    (m4 : Ret 15 #[.int .u8 a, .int .u8 x] (.int .u8 q))
    (m5 : Ret 15 #[.int .u8 p, .int .u8 c] (.int .u8 q))
    (d1 : Ret 11 #[.int .u8 b, .int .u8 c] (.int .u8 y))
    (d2 : Ret 15 #[.int .u8 a, .int .u8 y] (.int .u8 r))
    (d3 : Ret 15 #[.int .u8 a, .int .u8 c] (.int .u8 p2))
    (d4 : Ret 11 #[.int .u8 p, .int .u8 p2] (.int .u8 r))
    (u1 : Ret 15 #[.int .u8 a, .int .u8 1] (.int .u8 a))
    (u2 : Ret 15 #[.int .u8 a, .int .u8 0] (.int .u8 0))
    (aw : Ret 21 #[] (.bool true))
    (g : Ret 9 #[.int .u8 a] (.tuple #[.int .i64 l, .bool true]))
    (v1 : Ret 19 #[.int .u8 a] (.int .u8 i))
    (v2 : Ret 15 #[.int .u8 a, .int .u8 i] (.int .u8 1))
    (v3 : Ret 17 #[.int .u8 3, .int .i64 l] (.int .u8 a))
    (w : World) :
    Calls Try.prog 5 #[.int .u8 a, .int .u8 b, .int .u8 c] w fun e w' => e = .returned (.bool true) ∧ w = w' := by
  go_enter Try.func5, Try.ntmps5
  go_wp2_with fail
  refine (m1 _).mono ?_
  rintro e w' ⟨rfl, rfl⟩
  go_wp2_with fail
  refine (m2 _).mono ?_
  rintro e w' ⟨rfl, rfl⟩
  go_wp2_with fail
  refine (m3 _).mono ?_
  rintro e w' ⟨rfl, rfl⟩
  go_wp2_with fail
  refine (m4 _).mono ?_
  rintro e w' ⟨rfl, rfl⟩
  go_wp2_with fail
  refine (m1 _).mono ?_
  rintro e w' ⟨rfl, rfl⟩
  go_wp2_with fail
  refine (m5 _).mono ?_
  rintro e w' ⟨rfl, rfl⟩
  go_wp2_with fail
  refine (d1 _).mono ?_
  rintro e w' ⟨rfl, rfl⟩
  go_wp2_with fail
  refine (d2 _).mono ?_
  rintro e w' ⟨rfl, rfl⟩
  go_wp2_with fail
  refine (m1 _).mono ?_
  rintro e w' ⟨rfl, rfl⟩
  go_wp2_with fail
  refine (d3 _).mono ?_
  rintro e w' ⟨rfl, rfl⟩
  go_wp2_with fail
  refine (d4 _).mono ?_
  rintro e w' ⟨rfl, rfl⟩
  go_wp2_with fail
  refine (g _).mono ?_
  rintro e w' ⟨rfl, rfl⟩
  go_wp2_with fail
  refine (v1 _).mono ?_
  rintro e w' ⟨rfl, rfl⟩
  go_wp2_with fail
  refine (v2 _).mono ?_
  rintro e w' ⟨rfl, rfl⟩
  go_wp2_with fail
  refine (v3 _).mono ?_
  rintro e w' ⟨rfl, rfl⟩
  go_wp2_with fail
  refine (u1 _).mono ?_
  rintro e w' ⟨rfl, rfl⟩
  go_wp2_with fail
  refine (u2 _).mono ?_
  rintro e w' ⟨rfl, rfl⟩
  go_wp2_with fail
  refine (aw _).mono ?_
  rintro e w' ⟨rfl, rfl⟩
  go_wp2_with fail
  go_ret
  exact ⟨rfl, rfl⟩

set_option maxRecDepth 100000 in
set_option maxHeartbeats 1000000 in
theorem core0 (b c p p2 q x y r l : Int)
    (m1 : Ret 15 #[.int .u8 0, .int .u8 b] (.int .u8 p))
    (m2 : Ret 15 #[.int .u8 b, .int .u8 0] (.int .u8 p))
    (m3 : Ret 15 #[.int .u8 b, .int .u8 c] (.int .u8 x))
    (m4 : Ret 15 #[.int .u8 0, .int .u8 x] (.int .u8 q))
    (m5 : Ret 15 #[.int .u8 p, .int .u8 c] (.int .u8 q))
    (d1 : Ret 11 #[.int .u8 b, .int .u8 c] (.int .u8 y))
    (d2 : Ret 15 #[.int .u8 0, .int .u8 y] (.int .u8 r))
    (d3 : Ret 15 #[.int .u8 0, .int .u8 c] (.int .u8 p2))
    (d4 : Ret 11 #[.int .u8 p, .int .u8 p2] (.int .u8 r))
    (u1 : Ret 15 #[.int .u8 0, .int .u8 1] (.int .u8 0))
    (u2 : Ret 15 #[.int .u8 0, .int .u8 0] (.int .u8 0))
    (aw : Ret 21 #[] (.bool true))
    (g : Ret 9 #[.int .u8 0] (.tuple #[.int .i64 l, .bool false]))
    (v1 : Ret 19 #[.int .u8 0] (.int .u8 0))
    (w : World) :
    Calls Try.prog 5 #[.int .u8 0, .int .u8 b, .int .u8 c] w fun e w' => e = .returned (.bool true) ∧ w = w' := by
  go_enter Try.func5, Try.ntmps5
  go_wp2_with fail
  refine (m1 _).mono ?_
  rintro e w' ⟨rfl, rfl⟩
  go_wp2_with fail
  refine (m2 _).mono ?_
  rintro e w' ⟨rfl, rfl⟩
  go_wp2_with fail
  refine (m3 _).mono ?_
  rintro e w' ⟨rfl, rfl⟩
  go_wp2_with fail
  refine (m4 _).mono ?_
  rintro e w' ⟨rfl, rfl⟩
  go_wp2_with fail
  refine (m1 _).mono ?_
  rintro e w' ⟨rfl, rfl⟩
  go_wp2_with fail
  refine (m5 _).mono ?_
  rintro e w' ⟨rfl, rfl⟩
  go_wp2_with fail
  refine (d1 _).mono ?_
  rintro e w' ⟨rfl, rfl⟩
  go_wp2_with fail
  refine (d2 _).mono ?_
  rintro e w' ⟨rfl, rfl⟩
  go_wp2_with fail
  refine (m1 _).mono ?_
  rintro e w' ⟨rfl, rfl⟩
  go_wp2_with fail
  refine (d3 _).mono ?_
  rintro e w' ⟨rfl, rfl⟩
  go_wp2_with fail
  refine (d4 _).mono ?_
  rintro e w' ⟨rfl, rfl⟩
  go_wp2_with fail
  refine (g _).mono ?_
  rintro e w' ⟨rfl, rfl⟩
  go_wp2_with fail
  refine (u1 _).mono ?_
  rintro e w' ⟨rfl, rfl⟩
  go_wp2_with fail
  refine (u2 _).mono ?_
  rintro e w' ⟨rfl, rfl⟩
  go_wp2_with fail
  refine (v1 _).mono ?_
  rintro e w' ⟨rfl, rfl⟩
  go_wp2_with fail
  refine (aw _).mono ?_
  rintro e w' ⟨rfl, rfl⟩
  go_wp2_with fail
  go_ret
  exact ⟨rfl, rfl⟩

theorem ret_mul (a b v : Nat) (h1 : a ≤ 255) (g1 : b ≤ 255) (hv : Gf.mul a b = v) : Ret 15 #[.int .u8 (a : Int), .int .u8 (b : Int)] (.int .u8 (v : Int)) := by
  subst hv; intro w; have h := mul_any a b w (by omega) (by omega) (by omega) (by omega); rwa [Int.toNat_natCast, Int.toNat_natCast] at h
theorem ret_add (a b v : Nat) (h1 : a ≤ 255) (g1 : b ≤ 255) (hv : a ^^^ b = v) : Ret 11 #[.int .u8 (a : Int), .int .u8 (b : Int)] (.int .u8 (v : Int)) := by
  subst hv; intro w; have h := add_any a b w (by omega) (by omega) (by omega) (by omega); rwa [Int.toNat_natCast, Int.toNat_natCast] at h
theorem ret_log (a v : Nat) (l : Bool) (h1 : a ≤ 255) (hv : Gf.logN a = v) (hl : Gf.logB a = l) : Ret 9 #[.int .u8 (a : Int)] (.tuple #[.int .i64 (v : Int), .bool l]) := by
  subst hv hl; intro w; have h := log_any a w (by omega) (by omega); rwa [Int.toNat_natCast] at h
theorem ret_inv (a v : Nat) (h1 : a ≤ 255) (hv : Gf.inv a = v) : Ret 19 #[.int .u8 (a : Int)] (.int .u8 (v : Int)) := by
  subst hv; intro w; have h := inv_any a w (by omega) (by omega); rwa [Int.toNat_natCast] at h
theorem ret_pow (a n v : Nat) (h1 : a ≤ 255) (hn : n ≤ 255) (hv : Gf.pow a n = v) : Ret 17 #[.int .u8 (a : Int), .int .i64 (n : Int)] (.int .u8 (v : Int)) := by
  subst hv; intro w; have h := pow_any a n w (by omega) (by omega) (by omega); rwa [Int.toNat_natCast, Int.toNat_natCast] at h

theorem walk0 (a0 : Int) (a1 : Int) (a2 : Int) (w0 : (Lit.int .u8 a0).wf = true) (w1 : (Lit.int .u8 a1).wf = true) (w2 : (Lit.int .u8 a2).wf = true) (w : World) :
    Calls Try.prog 5 #[.int .u8 a0, .int .u8 a1, .int .u8 a2] w fun e w' => e = .returned (.bool true) ∧ w = w' := by
  obtain ⟨b0, t0⟩ := u8_of_wf w0
  obtain ⟨b1, t1⟩ := u8_of_wf w1
  obtain ⟨b2, t2⟩ := u8_of_wf w2
  clear w0 w1 w2
  obtain ⟨x, rfl⟩ := Int.eq_ofNat_of_zero_le b0
  obtain ⟨y, rfl⟩ := Int.eq_ofNat_of_zero_le b1
  obtain ⟨z, rfl⟩ := Int.eq_ofNat_of_zero_le b2
  have m1 := Gf.mul_lt x y (by omega)
  have m2 := Gf.mul_lt x z (by omega)
  have m3 := Gf.mul_lt y z (by omega)
  have m4 : y ^^^ z < 256 := Nat.xor_lt_two_pow (n := 8) (by omega) (by omega)
  have m5 := Gf.inv_lt x
  have e1 := Gf.mul_comm y x (by omega) (by omega)
  have e2 := (Gf.mul_assoc x y z (by omega) (by omega) (by omega)).symm
  have e3 := Gf.mul_xr x y z
  obtain ⟨e4, e5⟩ := Gf.mul_01 x (by omega)
  have r1 := ret_mul x y _ (by omega) (by omega) rfl
  have r2 := ret_mul y x _ (by omega) (by omega) e1
  have r3 := ret_mul y z _ (by omega) (by omega) rfl
  have r4 := ret_mul x (Gf.mul y z) _ (by omega) (by omega) rfl
  have r5 := ret_mul (Gf.mul x y) z _ (by omega) (by omega) e2
  have r6 := ret_add y z _ (by omega) (by omega) rfl
  have r7 := ret_mul x (y ^^^ z) _ (by omega) (by omega) e3
  have r8 := ret_mul x z _ (by omega) (by omega) rfl
  have r9 := ret_add (Gf.mul x y) (Gf.mul x z) _ (by omega) (by omega) rfl
  have r10 := ret_mul x 1 _ (by omega) (by omega) e4
  have r11 := ret_mul x 0 _ (by omega) (by omega) e5
  by_cases hz : x = 0
  · subst hz
    obtain ⟨z1, z2⟩ := Gf.laws0
    have r12 := ret_log 0 _ _ (by omega) rfl z1
    have r13 := ret_inv 0 _ (by omega) z2
    exact core0 y z _ _ _ _ _ _ _ r1 r2 r3 r4 r5 r6 r7 r8 r9 r10 r11 awake_any r12 r13 w
  · obtain ⟨z1, z2, z3, z4⟩ := Gf.laws x (by omega) hz
    have r12 := ret_log x _ _ (by omega) rfl z2
    have r13 := ret_inv x _ (by omega) rfl
    have r14 := ret_mul x (Gf.inv x) _ (by omega) (by omega) z1
    have r15 := ret_pow 3 (Gf.logN x) _ (by omega) (by omega) z4
    have hz' : ((x : Int) != 0) = true := by simpa using hz
    exact core1 x y z _ _ _ _ _ _ _ _ hz' (by omega) (by omega) r1 r2 r3 r4 r5 r6 r7 r8 r9 r10 r11 awake_any r12 r13 r14 r15 w

theorem walk (a0 : Int) (a1 : Int) (a2 : Int) (w0 : (Lit.int .u8 a0).wf = true) (w1 : (Lit.int .u8 a1).wf = true) (w2 : (Lit.int .u8 a2).wf = true) (w : World) :
    Calls Try.prog 5 #[.int .u8 a0, .int .u8 a1, .int .u8 a2] w fun e w' => e = .returned (.bool true) ∧ Grown w w' :=
  (walk0 a0 a1 a2 w0 w1 w2 w).mono fun e w' ⟨he, hw⟩ => ⟨he, hw ▸ Grown.refl w⟩

theorem own : ownKnob Try.prog.godebug = none := by kernel_rfl

set_option maxRecDepth 100000 in
theorem lifted (os : Os) (started : os.Started) (H : Type) (enc : TypeId × Value → H) :
    ReturnsInHanded {} Try.checked os 5 .any (Rows.fieldLawsSpec.pre6 enc Try.prog Try.f5 Rows.fieldLawsRow.domain false) (Rows.fieldLawsSpec.post enc Try.prog Try.f5 false true false false) := by
  refine returnsInHanded_of_change (C := Try.checked) own started (by kernel_rfl) Try.func5
    (ChangeSpec.witness6 (enc := enc) (C := Try.checked) false ⟨#[], #[.int .u8 0, .int .u8 0, .int .u8 0], []⟩ 8 (by kernel_rfl) (by kernel_rfl) (by kernel_rfl) (by kernel_rfl)) ?_
  intro W base args ds gs before hval0 hW hcnd _
  have hval : ∀ (j : Nat) t v, Try.f5.params[j]? = some t → args[j]? = some v → Value.okWide Try.prog W .any base t v := hval0
  have hW' := hW
  obtain ⟨p, q, hA0, hV, rfl, hfz, hnd⟩ := hW
  have hA : DataW.TrodAll enc Try.prog W 0 (fun _ => true) true Try.f5.params.toList args.toList ds p := hA0
  rw [Try.params5] at hA hval
  obtain ⟨v0, vs0, d0, ds0, p0, q0, hargs, rfl, rfl, h0, r0⟩ := trodAll_cons hA
  obtain ⟨v1, vs1, d1, ds1, p1, q1, rfl, rfl, rfl, h1, r1⟩ := trodAll_cons r0
  obtain ⟨v2, vs2, d2, ds2, p2, q2, rfl, rfl, rfl, h2, r2⟩ := trodAll_cons r1
  obtain ⟨rfl, rfl, rfl⟩ := trodAll_nil r2
  obtain rfl : args = #[v0, v1, v2] := by cases args; simp_all
  obtain ⟨rfl, rfl⟩ := trodVars_none hV
  obtain ⟨a0, rfl, rfl, rfl, w0⟩ := open_int Try.underlying5 (hval 0 5 v0 rfl rfl) h0
  obtain ⟨a1, rfl, rfl, rfl, w1⟩ := open_int Try.underlying5 (hval 1 5 v1 rfl rfl) h1
  obtain ⟨a2, rfl, rfl, rfl, w2⟩ := open_int Try.underlying5 (hval 2 5 v2 rfl rfl) h2
  clear hA0 hval0
  simp only [List.append_nil] at hW'
  refine (walk a0 a1 a2 w0 w1 w2 W).mono fun e W' ⟨he, hg⟩ => ?_
  subst he
  exact ⟨_, rfl, post_of_same (pa := []) (pv := []) hW' (fun _ _ _ => (trodAll_cons_mk (shut_bool Try.underlying4 _) trodAll_mk0)) (fun sp _ => (trodAll_cons_mk (shut_int Try.underlying5 w0) (trodAll_cons_mk (shut_int Try.underlying5 w1) (trodAll_cons_mk (shut_int Try.underlying5 w2) trodAll_mk0)))) (fun _ _ => rfl) rfl
    (hg.frame _) hg.2.1 (ok_one (by kernel_rfl) rfl (okWide_bool_mk Try.underlying4 _))⟩

theorem over : Rows.fieldLawsRow.holds Try.pinned (OpenSpec.ofChange Rows.fieldLawsSpec) :=
  OpenClaim.holds_of_wide 5 Try.f5 rfl rfl rfl rfl rfl rfl rfl ⟨rfl, rfl, rfl, rfl, rfl⟩ rfl rfl rfl rfl rfl (by kernel_rfl) Try.func5 (by kernel_rfl)
    (of_decide_eq_true (by kernel_rfl)) (by unfold Func.isWrapper; first | (rw [if_pos (by decide +kernel)]; kernel_rfl) | (rw [if_neg (by decide +kernel)]; exact ⟨rfl, rfl⟩))
    (fun os started H enc _ => lifted os started H enc)

theorem proved : Rows.FieldLawsSaid :=
  over

end Go.Proofs.Ytcdjpdncgaeinaa.fieldLaws
