/- The law FieldTells: for all bytes a, b and every n the sums, doubles, products, powers, inverses and logarithms are those of the reference; no conditions. -/
import Derived.Test.YtcdjpdncgaeinaaRows
import Derived.WalkKit
import Derived.ProofKit
import Derived.OpenShut
import Derived.Lib.Hide
import Derived.Test.YtcdjpdncgaeinaaBase
import Derived.Test.YtcdjpdncgaeinaaField
import Derived.Test.YtcdjpdncgaeinaaRefField
import Derived.Test.YtcdjpdncgaeinaaFieldLaws
namespace Go.Proofs.Ytcdjpdncgaeinaa.fieldTells
open Go.ChangeShapes Go.WideShapes Go.ChangeAt Go.RowKit

set_option maxRecDepth 100000 in
set_option maxHeartbeats 1000000 in
theorem core (a b n s t m p i l : Int) (k : Bool)
    (c1 : Ret 9 #[.int .u8 (a : Int)] (.tuple #[.int .i64 l, .bool k]))
    (c2 : Ret 10 #[.int .u8 (a : Int)] (.tuple #[.int .i64 l, .bool k]))
    (c3 : Ret 11 #[.int .u8 (a : Int), .int .u8 (b : Int)] (.int .u8 s))
    (d3 : Ret 12 #[.int .u8 (a : Int), .int .u8 (b : Int)] (.int .u8 s))
    (c4 : Ret 13 #[.int .u8 (a : Int)] (.int .u8 t))
    (d4 : Ret 14 #[.int .u8 (a : Int)] (.int .u8 t))
    (c5 : Ret 15 #[.int .u8 (a : Int), .int .u8 (b : Int)] (.int .u8 m))
    (d5 : Ret 16 #[.int .u8 (a : Int), .int .u8 (b : Int)] (.int .u8 m))
    (c6 : Ret 17 #[.int .u8 (a : Int), .int .i64 n] (.int .u8 p))
    (d6 : Ret 18 #[.int .u8 (a : Int), .int .i64 n] (.int .u8 p))
    (c7 : Ret 19 #[.int .u8 (a : Int)] (.int .u8 i))
    (d7 : Ret 20 #[.int .u8 (a : Int)] (.int .u8 i))
    (aw : Ret 21 #[] (.bool true))
    (w : World) :
    Calls Try.prog 3 #[.int .u8 a, .int .u8 b, .int .i64 n] w fun e w' => e = .returned (.bool true) ∧ w = w' := by
  go_enter Try.func3, Try.ntmps3
  go_wp2_with fail
  iterate 13 (first
    | (with_reducible refine c1.calls ?_; go_wp2_with fail)
    | (with_reducible refine c2.calls ?_; go_wp2_with fail)
    | (with_reducible refine c3.calls ?_; go_wp2_with fail)
    | (with_reducible refine d3.calls ?_; go_wp2_with fail)
    | (with_reducible refine c4.calls ?_; go_wp2_with fail)
    | (with_reducible refine d4.calls ?_; go_wp2_with fail)
    | (with_reducible refine c5.calls ?_; go_wp2_with fail)
    | (with_reducible refine d5.calls ?_; go_wp2_with fail)
    | (with_reducible refine c6.calls ?_; go_wp2_with fail)
    | (with_reducible refine d6.calls ?_; go_wp2_with fail)
    | (with_reducible refine c7.calls ?_; go_wp2_with fail)
    | (with_reducible refine d7.calls ?_; go_wp2_with fail)
    | (with_reducible refine aw.calls ?_; go_wp2_with fail))
  go_ret
  exact ⟨rfl, rfl⟩

theorem walk (a0 a1 a2 : Int) (w0 : (Lit.int .u8 a0).wf = true) (w1 : (Lit.int .u8 a1).wf = true) (w2 : (Lit.int .i64 a2).wf = true) (w : World) :
    Calls Try.prog 3 #[.int .u8 a0, .int .u8 a1, .int .i64 a2] w fun e w' => e = .returned (.bool true) ∧ Grown w w' := by
  obtain ⟨b0, t0⟩ := u8_of_wf w0
  obtain ⟨b1, t1⟩ := u8_of_wf w1
  obtain ⟨b2, t2⟩ := i64_of_wf w2
  clear w0 w1 w2
  obtain ⟨x, rfl⟩ := Int.eq_ofNat_of_zero_le b0
  obtain ⟨y, rfl⟩ := Int.eq_ofNat_of_zero_le b1
  have hx : x ≤ 255 := by omega
  have hy : y ≤ 255 := by omega
  refine (core x y a2 (x ^^^ y : Nat) (Gf.mul x 2 : Nat) (Gf.mul x y : Nat) (Gf.pow x a2.toNat : Nat) (Gf.inv x : Nat) (Gf.logN x : Nat) (Gf.logB x) ?_ ?_ ?_ ?_ ?_ ?_ ?_ ?_ ?_ ?_ ?_ ?_ ?_ w).mono fun e w' ⟨he, hw⟩ => ⟨he, hw ▸ Grown.refl w⟩
  · intro w; have h := Field.log_any x w (by omega) (by omega); rwa [Int.toNat_natCast] at h
  · intro w; exact RefField.log_ret x w hx
  · intro w; have h := Field.add_any x y w (by omega) (by omega) (by omega) (by omega); rwa [Int.toNat_natCast, Int.toNat_natCast] at h
  · intro w; exact RefField.add_ret x y w hx hy
  · intro w; have h := Field.twice_any x w (by omega) (by omega); rwa [Int.toNat_natCast, Gf.xt_mul x (by omega)] at h
  · intro w; exact RefField.twice_ret x w hx
  · intro w; have h := Field.mul_any x y w (by omega) (by omega) (by omega) (by omega); rwa [Int.toNat_natCast, Int.toNat_natCast] at h
  · intro w; exact RefField.mul_ret x y w hx hy
  · intro w; have h := Field.pow_any x a2 w (by omega) (by omega) (by omega); rwa [Int.toNat_natCast] at h
  · intro w; exact RefField.pow_ret x a2 w hx (by omega)
  · intro w; have h := Field.inv_any x w (by omega) (by omega); rwa [Int.toNat_natCast] at h
  · intro w; exact RefField.inv_ret x w hx
  · intro w; exact fieldLaws.awake_any w

theorem own : ownKnob Try.prog.godebug = none := by kernel_rfl

set_option maxRecDepth 100000 in
theorem lifted (os : Os) (started : os.Started) (H : Type) (enc : TypeId × Value → H) :
    ReturnsInHanded {} Try.checked os 3 .any (Rows.fieldTellsSpec.pre6 enc Try.prog Try.f3 Rows.fieldTellsRow.domain false) (Rows.fieldTellsSpec.post enc Try.prog Try.f3 false true false false) := by
  refine returnsInHanded_of_change (C := Try.checked) own started (by kernel_rfl) Try.func3
    (ChangeSpec.witness6 (enc := enc) (C := Try.checked) false ⟨#[], #[.int .u8 0, .int .u8 0, .int .i64 0], []⟩ 8 (by kernel_rfl) (by kernel_rfl) (by kernel_rfl) (by kernel_rfl)) ?_
  intro W base args ds gs before hval0 hW hcnd _
  have hval : ∀ (j : Nat) t v, Try.f3.params[j]? = some t → args[j]? = some v → Value.okWide Try.prog W .any base t v := hval0
  have hW' := hW
  obtain ⟨p, q, hA0, hV, rfl, hfz, hnd⟩ := hW
  have hA : DataW.TrodAll enc Try.prog W 0 (fun _ => true) true Try.f3.params.toList args.toList ds p := hA0
  rw [Try.params3] at hA hval
  obtain ⟨v0, vs0, d0, ds0, p0, q0, hargs, rfl, rfl, h0, r0⟩ := trodAll_cons hA
  obtain ⟨v1, vs1, d1, ds1, p1, q1, rfl, rfl, rfl, h1, r1⟩ := trodAll_cons r0
  obtain ⟨v2, vs2, d2, ds2, p2, q2, rfl, rfl, rfl, h2, r2⟩ := trodAll_cons r1
  obtain ⟨rfl, rfl, rfl⟩ := trodAll_nil r2
  obtain rfl : args = #[v0, v1, v2] := by cases args; simp_all
  obtain ⟨rfl, rfl⟩ := trodVars_none hV
  obtain ⟨a0, rfl, rfl, rfl, w0⟩ := open_int Try.underlying5 (hval 0 5 v0 rfl rfl) h0
  obtain ⟨a1, rfl, rfl, rfl, w1⟩ := open_int Try.underlying5 (hval 1 5 v1 rfl rfl) h1
  obtain ⟨a2, rfl, rfl, rfl, w2⟩ := open_int Try.underlying3 (hval 2 3 v2 rfl rfl) h2
  clear hA0 hval0
  simp only [List.append_nil] at hW'
  refine (walk a0 a1 a2 w0 w1 w2 W).mono fun e W' ⟨he, hg⟩ => ?_
  subst he
  exact ⟨_, rfl, post_of_same (pa := []) (pv := []) hW' (fun _ _ _ => (trodAll_cons_mk (shut_bool Try.underlying4 _) trodAll_mk0)) (fun sp _ => (trodAll_cons_mk (shut_int Try.underlying5 w0) (trodAll_cons_mk (shut_int Try.underlying5 w1) (trodAll_cons_mk (shut_int Try.underlying3 w2) trodAll_mk0)))) (fun _ _ => rfl) rfl
    (hg.frame _) hg.2.1 (ok_one (by kernel_rfl) rfl (okWide_bool_mk Try.underlying4 _))⟩

theorem over : Rows.fieldTellsRow.holds Try.pinned (OpenSpec.ofChange Rows.fieldTellsSpec) :=
  OpenClaim.holds_of_wide 3 Try.f3 rfl rfl rfl rfl rfl rfl rfl ⟨rfl, rfl, rfl, rfl, rfl⟩ rfl rfl rfl rfl rfl (by kernel_rfl) Try.func3 (by kernel_rfl)
    (of_decide_eq_true (by kernel_rfl)) (by unfold Func.isWrapper; first | (rw [if_pos (by decide +kernel)]; kernel_rfl) | (rw [if_neg (by decide +kernel)]; exact ⟨rfl, rfl⟩))
    (fun os started H enc _ => lifted os started H enc)

theorem proved : Rows.FieldTellsSaid :=
  over

end Go.Proofs.Ytcdjpdncgaeinaa.fieldTells
