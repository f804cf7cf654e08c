/- The law OctetsTell: for every number, width and text, Put and Get answer as the reference does; no conditions. -/
import Derived.Test.YtldipjlepofdgaaRows
import Derived.WalkKit
import Derived.ProofKit
import Derived.OpenShut
import Derived.Lib.Hide
import Derived.Test.YtldipjlepofdgaaBase
import Derived.Test.YtldipjlepofdgaaStr
import Derived.Test.YtldipjlepofdgaaOct
import Derived.Test.YtldipjlepofdgaaOctAwake
import Derived.Test.YtldipjlepofdgaaRefOct
namespace Go.Proofs.Ytldipjlepofdgaa.octetsTell
open Go.ChangeShapes Go.WideShapes Go.ChangeAt Go.RowKit

set_option maxRecDepth 100000 in
set_option maxHeartbeats 1000000 in
theorem core (n width : Int) (s : ByteArray) (hs : s.size ≤ 500) (x : Int) (k : Bool) (p : ByteArray)
    (c1 : Ret 13 #[.string s] (.tuple #[.int .u64 x, .bool k])) (c2 : Ret 14 #[.string s] (.tuple #[.int .u64 x, .bool k]))
    (c3 : Mak 15 #[.int .u64 n, .int .i64 width] (.string p)) (c4 : Mak 16 #[.int .u64 n, .int .i64 width] (.string p)) (w : World) :
    Calls Try.prog 3 #[.int .u64 n, .int .i64 width, .string s] w fun e w' => e = .returned (.bool true) ∧ Since w w' := by
  have H0 := Lib.hid (Since.refl w)
  go_enter Try.func3, Try.ntmps3
  go_wp2_with fail
  refine c1.calls ?_
  go_wp2_with fail
  refine c2.calls ?_
  go_wp2_with fail
  refine c3.calls H0.out ?_
  intro w1 h1
  have H1 := Lib.hid h1
  clear h1
  go_wp2_with fail
  refine c4.calls H1.out ?_
  intro w2 h2
  have H2 := Lib.hid h2
  clear h2
  go_wp2_with fail
  refine Oct.awake_mak.calls H2.out ?_
  intro w3 h3
  have H3 := Lib.hid h3
  clear h3
  go_wp2_with fail
  go_ret
  exact ⟨rfl, H3.out⟩

theorem walk (a0 a1 : Int) (a2 : ByteArray) (w0 : (Lit.int .u64 a0).wf = true) (w1 : (Lit.int .i64 a1).wf = true) (w2 : a2.size ≤ maxLen) (w : World) :
    Calls Try.prog 3 #[.int .u64 a0, .int .i64 a1, .string a2] w fun e w' => e = .returned (.bool true) ∧ Below w.heap.size w w' := by
  obtain ⟨b0, t0⟩ := u64_of_wf w0
  obtain ⟨b1, t1⟩ := i64_of_wf w1
  unfold maxLen at w2
  by_cases hs : a2.size ≤ 500
  · have hput : ∃ p, Mak 15 #[.int .u64 a0, .int .i64 a1] (.string p) ∧ Mak 16 #[.int .u64 a0, .int .i64 a1] (.string p) := by
      by_cases h : a1 < 1 ∨ 8 < a1
      · exact ⟨⟨#[]⟩, fun w => Oct.put_out a0 a1 w h, fun w => RefOct.put_out a0 a1 w h⟩
      · obtain ⟨k, rfl⟩ := Int.eq_ofNat_of_zero_le (show 0 ≤ a1 by omega)
        refine ⟨strOfNums (Oct.putL a0 k), fun w => Oct.put_mid a0 k w b0 t0 (by omega) (by omega), fun w => ?_⟩
        rw [RefOct.put_same a0 k (by omega)]
        exact RefOct.put_mid a0 k w b0 t0 (by omega) (by omega)
    obtain ⟨p, hp1, hp2⟩ := hput
    by_cases h : a2.size < 1 ∨ 8 < a2.size
    · exact core a0 a1 a2 hs 0 false p (fun w => Oct.get_out a2 w h (by omega)) (fun w => RefOct.get_out a2 w h (by omega)) hp1 hp2 w
    · exact core a0 a1 a2 hs _ true p (fun w => Oct.get_in a2 w (by omega) (by omega)) (fun w => RefOct.get_in a2 w (by omega) (by omega)) hp1 hp2 w
  · go_enter Try.func3, Try.ntmps3
    go_wp2_with fail
    refine Oct.awake_mak.calls (Since.refl w) ?_
    intro w3 h3
    have H3 := Lib.hid h3
    clear h3
    go_wp2_with fail
    go_ret
    exact ⟨rfl, H3.out⟩

theorem own : ownKnob Try.prog.godebug = none := by kernel_rfl

set_option maxRecDepth 100000 in
theorem lifted (os : Os) (started : os.Started) (H : Type) (enc : TypeId × Value → H) :
    ReturnsInHanded {} Try.checked os 3 .any (Rows.octetsTellSpec.pre6 enc Try.prog Try.f3 Rows.octetsTellRow.domain false) (Rows.octetsTellSpec.post enc Try.prog Try.f3 false true false false) := by
  refine returnsInHanded_of_change (C := Try.checked) own started (by kernel_rfl) Try.func3
    (ChangeSpec.witness6 (enc := enc) (C := Try.checked) false ⟨#[], #[.int .u64 0, .int .i64 0, .string ⟨#[]⟩], []⟩ 8 (by kernel_rfl) (by kernel_rfl) (by kernel_rfl) (by kernel_rfl)) ?_
  intro W base args ds gs before hval0 hW hcnd _
  have hval : ∀ (j : Nat) t v, Try.f3.params[j]? = some t → args[j]? = some v → Value.okWide Try.prog W .any base t v := hval0
  have hW' := hW
  obtain ⟨p, q, hA0, hV, rfl, hfz, hnd⟩ := hW
  have hA : DataW.TrodAll enc Try.prog W 0 (fun _ => true) true Try.f3.params.toList args.toList ds p := hA0
  rw [Try.params3] at hA hval
  obtain ⟨v0, vs0, d0, ds0, p0, q0, hargs, rfl, rfl, h0, r0⟩ := trodAll_cons hA
  obtain ⟨v1, vs1, d1, ds1, p1, q1, rfl, rfl, rfl, h1, r1⟩ := trodAll_cons r0
  obtain ⟨v2, vs2, d2, ds2, p2, q2, rfl, rfl, rfl, h2, r2⟩ := trodAll_cons r1
  obtain ⟨rfl, rfl, rfl⟩ := trodAll_nil r2
  obtain rfl : args = #[v0, v1, v2] := by cases args; simp_all
  obtain ⟨rfl, rfl⟩ := trodVars_none hV
  obtain ⟨a0, rfl, rfl, rfl, w0⟩ := open_int Try.underlying22 (hval 0 22 v0 rfl rfl) h0
  obtain ⟨a1, rfl, rfl, rfl, w1⟩ := open_int Try.underlying3 (hval 1 3 v1 rfl rfl) h1
  obtain ⟨a2, rfl, rfl, rfl, w2⟩ := Go.ChangeMaps.open_string Try.underlying9 (hval 2 9 v2 rfl rfl) h2
  clear hA0 hval0
  simp only [List.append_nil] at hW'
  refine (walk a0 a1 a2 w0 w1 w2 W).mono fun e W' ⟨he, hg⟩ => ?_
  subst he
  exact ⟨_, rfl, _, _, _, _, _, [], hW', (trodAll_cons_mk (shut_bool Try.underlying4 _) trodAll_mk0), (trodAll_cons_mk (shut_int Try.underlying22 w0) (trodAll_cons_mk (shut_int Try.underlying3 w1) (trodAll_cons_mk (Go.ChangeMaps.shut_string Try.underlying9 w2) trodAll_mk0))), rfl, hg.frame _, fun h => by cases h⟩

theorem over : Rows.octetsTellRow.holds Try.pinned (OpenSpec.ofChange Rows.octetsTellSpec) :=
  OpenClaim.holds_of_wide 3 Try.f3 rfl rfl rfl rfl rfl rfl rfl ⟨rfl, rfl, rfl, rfl, rfl⟩ rfl rfl rfl rfl rfl (by kernel_rfl) Try.func3 (by kernel_rfl)
    (of_decide_eq_true (by kernel_rfl)) (by unfold Func.isWrapper; first | (rw [if_pos (by decide +kernel)]; kernel_rfl) | (rw [if_neg (by decide +kernel)]; exact ⟨rfl, rfl⟩))
    (fun os started H enc _ => lifted os started H enc)

theorem proved : Rows.OctetsTellSaid :=
  over

end Go.Proofs.Ytldipjlepofdgaa.octetsTell
