/- The law StrsTells: truths, bits and texts are written and read as the document says; no conditions. -/
import Derived.Test.YtglilnlhgdhnmaaRows
import Derived.WalkKit
import Derived.ProofKit
import Derived.OpenShut
import Derived.Lib.Hide
import Derived.Test.YtglilnlhgdhnmaaSk37
namespace Go.Proofs.Ytglilnlhgdhnmaa.strsTells
open Go.ChangeShapes Go.WideShapes Go.ChangeAt Go.RowKit
open Strs Utf Prn

set_option maxRecDepth 100000 in
set_option maxHeartbeats 4000000 in
theorem core (s : ByteArray) (n : Int) (y : Bool) (l1 : (s.size : Int) ≤ 200) (A X B : ByteArray) (p q u v : Bool) (m : Int) (f g : Bool)
    (c1 : Mak 30 #[.string s, .int .i64 n] (.tuple #[.string A, .bool p])) (c2 : Mak 31 #[.string s, .int .i64 n] (.tuple #[.string A, .bool p]))
    (c3 : Mak 32 #[.string s] (.tuple #[.string X, .int .i64 m, .bool q])) (c4 : Mak 33 #[.string s] (.tuple #[.string X, .int .i64 m, .bool q]))
    (c5 : Ret 34 #[.string s] (.tuple #[.bool u, .bool v])) (c6 : Ret 35 #[.string s] (.tuple #[.bool u, .bool v]))
    (c7 : Ret 36 #[.bool y] (.string B)) (c8 : Ret 37 #[.bool y] (.string B))
    (c9 : Mak 38 #[.string s] (.bool f)) (c10 : Ret 39 #[.string s] (.bool f))
    (c11 : Mak 40 #[.string s] (.bool g)) (c12 : Mak 41 #[.string s] (.bool g)) (w : World) :
    Calls Try.prog 5 #[.string s, .int .i64 n, .bool y] w fun x w' => x = .returned (.bool true) ∧ Since w w' := by
  have H0 := Lib.hid (Since.refl w)
  have t1 : decide ((200 : Int) < (s.size : Int)) = false := decide_eq_false (by omega)
  go_enter Try.func5, Try.ntmps5
  go_wp2_with fail
  refine c1.calls H0.out ?_
  intro w1 h1
  have H1 := Lib.hid h1
  clear h1
  go_wp2_with fail
  refine c2.calls H1.out ?_
  intro w2 h2
  have H2 := Lib.hid h2
  clear h2
  go_wp2_with fail
  refine c3.calls H2.out ?_
  intro w3 h3
  have H3 := Lib.hid h3
  clear h3
  go_wp2_with fail
  refine c4.calls H3.out ?_
  intro w4 h4
  have H4 := Lib.hid h4
  clear h4
  go_wp2_with fail
  refine (c5).calls ?_
  go_wp2_with fail
  refine (c6).calls ?_
  go_wp2_with fail
  refine (c7).calls ?_
  go_wp2_with fail
  refine (c8).calls ?_
  go_wp2_with fail
  refine c9.calls H4.out ?_
  intro w5 h5
  have H5 := Lib.hid h5
  clear h5
  go_wp2_with fail
  refine (c10).calls ?_
  go_wp2_with fail
  refine c11.calls H5.out ?_
  intro w6 h6
  have H6 := Lib.hid h6
  clear h6
  go_wp2_with fail
  refine c12.calls H6.out ?_
  intro w7 h7
  have H7 := Lib.hid h7
  clear h7
  go_wp2_with fail
  refine awake_mak.calls H7.out ?_
  intro w8 h8
  have H8 := Lib.hid h8
  clear h8
  go_wp2_with fail
  go_ret
  exact ⟨rfl, H8.out⟩
set_option maxRecDepth 100000 in
set_option maxHeartbeats 4000000 in
theorem core_big (s : ByteArray) (n : Int) (y : Bool) (hb : 200 < s.size) (w : World) :
    Calls Try.prog 5 #[.string s, .int .i64 n, .bool y] w fun x w' => x = .returned (.bool true) ∧ Since w w' := by
  have H0 := Lib.hid (Since.refl w)
  have t_s : decide ((200 : Int) < (s.size : Int)) = true := decide_eq_true (by omega)
  clear hb
  go_enter Try.func5, Try.ntmps5
  go_wp2_with fail
  refine awake_mak.calls H0.out ?_
  intro w1 h1
  have H1 := Lib.hid h1
  clear h1
  go_wp2_with fail
  go_ret
  exact ⟨rfl, H1.out⟩
set_option maxRecDepth 100000 in
theorem walk (s : ByteArray) (n : Int) (y : Bool) (_w0 : s.size ≤ maxLen) (_w1 : (Lit.int .i64 n).wf = true) (w : World) :
    Calls Try.prog 5 #[.string s, .int .i64 n, .bool y] w fun e w' => e = .returned (.bool true) ∧ Below w.heap.size w w' := by
  by_cases hb : 200 < s.size
  · exact core_big s n y hb w
  · exact core s n y (by omega) _ _ _ _ _ _ _ _ _ _ (bits_mak s n (by omega)) (RefStrs.bits_mak s n (by omega)) (unbits_mak s (by omega)) (RefStrs.unbits_mak s (by omega)) (unbool_ret s) (runbool_ret s) (bool_ret y) (rbool_ret y)
      (utf_mak s (by omega) _ rfl) (RefUtf.utf_ret s (by omega) _ rfl) (printable_mak s (by omega) _ rfl) (prn_mak s (by omega) _ rfl) w

set_option maxRecDepth 100000 in
theorem own : ownKnob Try.prog.godebug = none := by kernel_rfl

set_option maxRecDepth 100000 in
theorem lifted (os : Os) (started : os.Started) (H : Type) (enc : TypeId × Value → H) :
    ReturnsInHanded {} Try.checked os 5 .any (Rows.strsTellsSpec.pre6 enc Try.prog Try.f5 Rows.strsTellsRow.domain false) (Rows.strsTellsSpec.post enc Try.prog Try.f5 false true false false) := by
  refine returnsInHanded_of_change (C := Try.checked) own started (by kernel_rfl) Try.func5
    (ChangeSpec.witness6 (enc := enc) (C := Try.checked) false ⟨#[], #[.string ⟨#[]⟩, .int .i64 0, .bool false], []⟩ 8 (by kernel_rfl) (by kernel_rfl) (by kernel_rfl) (by kernel_rfl)) ?_
  intro W base args ds gs before hval0 hW hcnd _
  have hval : ∀ (j : Nat) t v, Try.f5.params[j]? = some t → args[j]? = some v → Value.okWide Try.prog W .any base t v := hval0
  have hW' := hW
  obtain ⟨p, q, hA0, hV, rfl, hfz, hnd⟩ := hW
  have hA : DataW.TrodAll enc Try.prog W 0 (fun _ => true) true Try.f5.params.toList args.toList ds p := hA0
  rw [Try.params5] at hA hval
  obtain ⟨v0, vs0, d0, ds0, p0, q0, hargs, rfl, rfl, h0, r0⟩ := trodAll_cons hA
  obtain ⟨v1, vs1, d1, ds1, p1, q1, rfl, rfl, rfl, h1, r1⟩ := trodAll_cons r0
  obtain ⟨v2, vs2, d2, ds2, p2, q2, rfl, rfl, rfl, h2, r2⟩ := trodAll_cons r1
  obtain ⟨rfl, rfl, rfl⟩ := trodAll_nil r2
  obtain rfl : args = #[v0, v1, v2] := by cases args; simp_all
  obtain ⟨rfl, rfl⟩ := trodVars_none hV
  obtain ⟨a0, rfl, rfl, rfl, w0⟩ := Go.ChangeMaps.open_string Try.underlying9 (hval 0 9 v0 rfl rfl) h0
  obtain ⟨a1, rfl, rfl, rfl, w1⟩ := open_int Try.underlying3 (hval 1 3 v1 rfl rfl) h1
  obtain ⟨a2, rfl, rfl, rfl⟩ := open_bool Try.underlying4 (hval 2 4 v2 rfl rfl) h2
  clear hA0 hval0
  simp only [List.append_nil] at hW'
  refine (walk a0 a1 a2 w0 w1 W).mono fun e W' ⟨he, hg⟩ => ?_
  subst he
  exact ⟨_, rfl, _, _, _, _, _, [], hW', (trodAll_cons_mk (shut_bool Try.underlying4 _) trodAll_mk0), (trodAll_cons_mk (Go.ChangeMaps.shut_string Try.underlying9 w0) (trodAll_cons_mk (shut_int Try.underlying3 w1) (trodAll_cons_mk (shut_bool Try.underlying4 _) trodAll_mk0))), rfl, hg.frame _, fun h => by cases h⟩

set_option maxRecDepth 100000 in
theorem over : Rows.strsTellsRow.holds Try.pinned (OpenSpec.ofChange Rows.strsTellsSpec) :=
  OpenClaim.holds_of_wide 5 Try.f5 rfl rfl rfl rfl rfl rfl rfl ⟨rfl, rfl, rfl, rfl, rfl⟩ rfl rfl rfl rfl rfl (by kernel_rfl) Try.func5 (by kernel_rfl)
    (of_decide_eq_true (by kernel_rfl)) (by unfold Func.isWrapper; first | (rw [if_pos (by decide +kernel)]; kernel_rfl) | (rw [if_neg (by decide +kernel)]; exact ⟨rfl, rfl⟩))
    (fun os started H enc _ => lifted os started H enc)

theorem proved : Rows.StrsTellsSaid :=
  over

end Go.Proofs.Ytglilnlhgdhnmaa.strsTells
