/- The law DigitsHex: for all texts and bytes, Hex, Unhex and Value answer as the reference does; no conditions. -/
import Derived.Test.YtldipjlepofdgaaRows
import Derived.WalkKit
import Derived.ProofKit
import Derived.OpenShut
import Derived.Lib.Hide
import Derived.Test.YtldipjlepofdgaaBase
import Derived.Test.YtldipjlepofdgaaStr
import Derived.Test.YtldipjlepofdgaaDigM
import Derived.Test.YtldipjlepofdgaaDig
import Derived.Test.YtldipjlepofdgaaDig2
import Derived.Test.YtldipjlepofdgaaNum
import Derived.Test.YtldipjlepofdgaaRefDig
namespace Go.Proofs.Ytldipjlepofdgaa
namespace Dig
open Go.RowKit

theorem unhex_mak (s : ByteArray) (hm : s.size ≤ 140737488355328) : ∃ X B, Mak 33 #[.string s] (.tuple #[.string X, .bool B]) ∧ Mak 34 #[.string s] (.tuple #[.string X, .bool B]) := by
  by_cases h : s.size % 2 = 1
  · exact ⟨⟨#[]⟩, false, fun w => unhex_odd s w hm h, fun w => RefDig.unhex_odd s w hm h⟩
  · exact ⟨_, _, fun w => unhex_even s (s.size / 2) w hm (by omega) _ _ rfl rfl, fun w => RefDig.unhex_even s (s.size / 2) w hm (by omega) _ _ rfl rfl⟩

set_option maxRecDepth 100000 in
set_option maxHeartbeats 1000000 in
theorem awake_mak : Mak 32 #[] (.bool true) := by
  intro w
  have H0 := Lib.hid (Since.refl w)
  have c1 : Mak 33 #[.string ⟨#[65, 66, 48, 53]⟩] (.tuple #[.string ⟨#[171, 5]⟩, .bool true]) := fun w =>
    unhex_even ⟨#[65, 66, 48, 53]⟩ 2 w (by decide) rfl ⟨#[171, 5]⟩ true (by decide +kernel) (by decide +kernel)
  have c2 : Mak 39 #[.string ⟨#[48, 48, 55, 48]⟩] (.tuple #[.int .i64 70, .bool true]) := by
    have h : Ret 39 #[.string ⟨#[48, 48, 55, 48]⟩] (.tuple #[.int .i64 70, .bool true]) := fun w => undec_in ⟨#[48, 48, 55, 48]⟩ w (by decide) (by decide) 70 true (by decide +kernel) (by decide +kernel)
    exact h.mak
  have c3 : Mak 35 #[.string ⟨#[171, 5]⟩] (.string ⟨#[65, 66, 48, 53]⟩) := fun w => by
    have h := hex_any ⟨#[171, 5]⟩ w (by decide)
    rwa [show bs (hexL (⟨#[171, 5]⟩ : ByteArray).data.toList) = ⟨#[65, 66, 48, 53]⟩ from by decide +kernel] at h
  have c4 : Mak 43 #[.int .i64 7, .int .i64 4] (.string ⟨#[48, 48, 48, 55]⟩) := fun w => dec_mid 7 4 w (by decide) (by decide) (by decide) ⟨#[48, 48, 48, 55]⟩ (by decide +kernel)
  have c5 : Mak 45 #[.int .i64 (-12)] (.string ⟨#[45, 49, 50]⟩) := fun w => num_neg (-12) 12 w (by omega) (by omega) (by omega) (by omega) ⟨#[45, 49, 50]⟩ (fun L h1 h2 h3 => by
    have hL : L = 2 := by
      rcases h3 with rfl | h3
      · simp at h2
      · apply Classical.byContradiction
        intro hne
        rcases (show L = 1 ∨ 3 ≤ L by omega) with rfl | h5
        · simp at h2
        · have h6 : 10 ^ 2 ≤ 10 ^ (L - 1) := Nat.pow_le_pow_right (by decide) (by omega)
          omega
    subst hL
    decide +kernel)
  have c6 : Mak 37 #[.int .u8 71] (.int .i64 (-1)) := by
    have h : Ret 37 #[.int .u8 71] (.int .i64 (-1)) := fun w => value_any 71 w (by decide)
    exact h.mak
  go_enter Try.func32, Try.ntmps32
  go_wp2_with fail
  refine c1.calls H0.out ?_
  intro w1 h1
  have K1 := Lib.hid h1
  clear h1
  go_wp2_with fail
  refine c2.calls K1.out ?_
  intro w2 h2
  have K2 := Lib.hid h2
  clear h2
  go_wp2_with fail
  refine c3.calls K2.out ?_
  intro w3 h3
  have K3 := Lib.hid h3
  clear h3
  go_wp2_with fail
  refine c4.calls K3.out ?_
  intro w4 h4
  have K4 := Lib.hid h4
  clear h4
  go_wp2_with fail
  refine c5.calls K4.out ?_
  intro w5 h5
  have K5 := Lib.hid h5
  clear h5
  go_wp2_with fail
  refine c6.calls K5.out ?_
  intro w6 h6
  have K6 := Lib.hid h6
  clear h6
  go_wp2_with fail
  go_ret
  exact ⟨rfl, K6.out⟩
end Dig

namespace digitsHex
open Go.ChangeShapes Go.WideShapes Go.ChangeAt Go.RowKit

set_option maxRecDepth 100000 in
set_option maxHeartbeats 1000000 in
theorem core (s t : ByteArray) (c : Int) (hs : s.size ≤ 500) (ht : t.size ≤ 500) (X H : ByteArray) (B : Bool) (V : Int)
    (c1 : Mak 33 #[.string t] (.tuple #[.string X, .bool B])) (c2 : Mak 34 #[.string t] (.tuple #[.string X, .bool B]))
    (c3 : Mak 35 #[.string s] (.string H)) (c4 : Mak 36 #[.string s] (.string H))
    (c5 : Mak 37 #[.int .u8 c] (.int .i64 V)) (c6 : Mak 38 #[.int .u8 c] (.int .i64 V)) (w : World) :
    Calls Try.prog 7 #[.string s, .string t, .int .u8 c] w fun e w' => e = .returned (.bool true) ∧ Since w w' := by
  have H0 := Lib.hid (Since.refl w)
  go_enter Try.func7, Try.ntmps7
  go_wp2_with fail
  refine c1.calls H0.out ?_
  intro w1 h1
  have K1 := Lib.hid h1
  clear h1
  go_wp2_with fail
  refine c2.calls K1.out ?_
  intro w2 h2
  have K2 := Lib.hid h2
  clear h2
  go_wp2_with fail
  refine c3.calls K2.out ?_
  intro w3 h3
  have K3 := Lib.hid h3
  clear h3
  go_wp2_with fail
  refine c4.calls K3.out ?_
  intro w4 h4
  have K4 := Lib.hid h4
  clear h4
  go_wp2_with fail
  refine c5.calls K4.out ?_
  intro w5 h5
  have K5 := Lib.hid h5
  clear h5
  go_wp2_with fail
  refine c6.calls K5.out ?_
  intro w6 h6
  have K6 := Lib.hid h6
  clear h6
  go_wp2_with fail
  refine Dig.awake_mak.calls K6.out ?_
  intro w7 h7
  have K7 := Lib.hid h7
  clear h7
  go_wp2_with fail
  go_ret
  exact ⟨rfl, K7.out⟩

set_option maxHeartbeats 1000000 in
theorem early (a0 a1 : ByteArray) (a2 : Int) (h : 500 < a0.size ∨ 500 < a1.size) (w : World) :
    Calls Try.prog 7 #[.string a0, .string a1, .int .u8 a2] w fun e w' => e = .returned (.bool true) ∧ Since w w' := by
  have H0 := Lib.hid (Since.refl w)
  by_cases h0 : 500 < a0.size
  · clear h
    go_enter Try.func7, Try.ntmps7
    go_wp2_with fail
    refine Dig.awake_mak.calls H0.out ?_
    intro w1 h1
    have K1 := Lib.hid h1
    clear h1
    go_wp2_with fail
    go_ret
    exact ⟨rfl, K1.out⟩
  · have h1 : 500 < a1.size := by omega
    clear h
    go_enter Try.func7, Try.ntmps7
    go_wp2_with fail
    refine Dig.awake_mak.calls H0.out ?_
    intro w1 h1
    have K1 := Lib.hid h1
    clear h1
    go_wp2_with fail
    go_ret
    exact ⟨rfl, K1.out⟩

theorem walk (a0 a1 : ByteArray) (a2 : Int) (w0 : a0.size ≤ maxLen) (w1 : a1.size ≤ maxLen) (w2 : (Lit.int .u8 a2).wf = true) (w : World) :
    Calls Try.prog 7 #[.string a0, .string a1, .int .u8 a2] w fun e w' => e = .returned (.bool true) ∧ Below w.heap.size w w' := by
  obtain ⟨b0, t0⟩ := u8_of_wf w2
  obtain ⟨c, rfl⟩ := Int.eq_ofNat_of_zero_le b0
  by_cases h : 500 < a0.size ∨ 500 < a1.size
  · exact early a0 a1 c h w
  · obtain ⟨X, B, u1, u2⟩ := Dig.unhex_mak a1 (by omega)
    have v1 : Ret 37 #[.int .u8 (c : Int)] (.int .i64 (Dig.val c)) := fun w => Dig.value_any c w (by omega)
    have v2 : Ret 38 #[.int .u8 (c : Int)] (.int .i64 (Dig.val c)) := fun w => RefDig.value_any c w (by omega) _ rfl
    exact core a0 a1 c (by omega) (by omega) X (bs (Dig.hexL a0.data.toList)) B (Dig.val c) u1 u2 (fun w => Dig.hex_any a0 w (by omega)) (fun w => RefDig.hex_any a0 w (by omega) _ rfl) v1.mak v2.mak w

theorem own : ownKnob Try.prog.godebug = none := by kernel_rfl

set_option maxRecDepth 100000 in
theorem lifted (os : Os) (started : os.Started) (H : Type) (enc : TypeId × Value → H) :
    ReturnsInHanded {} Try.checked os 7 .any (Rows.digitsHexSpec.pre6 enc Try.prog Try.f7 Rows.digitsHexRow.domain false) (Rows.digitsHexSpec.post enc Try.prog Try.f7 false true false false) := by
  refine returnsInHanded_of_change (C := Try.checked) own started (by kernel_rfl) Try.func7
    (ChangeSpec.witness6 (enc := enc) (C := Try.checked) false ⟨#[], #[.string ⟨#[]⟩, .string ⟨#[]⟩, .int .u8 0], []⟩ 8 (by kernel_rfl) (by kernel_rfl) (by kernel_rfl) (by kernel_rfl)) ?_
  intro W base args ds gs before hval0 hW hcnd _
  have hval : ∀ (j : Nat) t v, Try.f7.params[j]? = some t → args[j]? = some v → Value.okWide Try.prog W .any base t v := hval0
  have hW' := hW
  obtain ⟨p, q, hA0, hV, rfl, hfz, hnd⟩ := hW
  have hA : DataW.TrodAll enc Try.prog W 0 (fun _ => true) true Try.f7.params.toList args.toList ds p := hA0
  rw [Try.params7] at hA hval
  obtain ⟨v0, vs0, d0, ds0, p0, q0, hargs, rfl, rfl, h0, r0⟩ := trodAll_cons hA
  obtain ⟨v1, vs1, d1, ds1, p1, q1, rfl, rfl, rfl, h1, r1⟩ := trodAll_cons r0
  obtain ⟨v2, vs2, d2, ds2, p2, q2, rfl, rfl, rfl, h2, r2⟩ := trodAll_cons r1
  obtain ⟨rfl, rfl, rfl⟩ := trodAll_nil r2
  obtain rfl : args = #[v0, v1, v2] := by cases args; simp_all
  obtain ⟨rfl, rfl⟩ := trodVars_none hV
  obtain ⟨a0, rfl, rfl, rfl, w0⟩ := Go.ChangeMaps.open_string Try.underlying9 (hval 0 9 v0 rfl rfl) h0
  obtain ⟨a1, rfl, rfl, rfl, w1⟩ := Go.ChangeMaps.open_string Try.underlying9 (hval 1 9 v1 rfl rfl) h1
  obtain ⟨a2, rfl, rfl, rfl, w2⟩ := open_int Try.underlying5 (hval 2 5 v2 rfl rfl) h2
  clear hA0 hval0
  simp only [List.append_nil] at hW'
  refine (walk a0 a1 a2 w0 w1 w2 W).mono fun e W' ⟨he, hg⟩ => ?_
  subst he
  exact ⟨_, rfl, _, _, _, _, _, [], hW', (trodAll_cons_mk (shut_bool Try.underlying4 _) trodAll_mk0), (trodAll_cons_mk (Go.ChangeMaps.shut_string Try.underlying9 w0) (trodAll_cons_mk (Go.ChangeMaps.shut_string Try.underlying9 w1) (trodAll_cons_mk (shut_int Try.underlying5 w2) trodAll_mk0))), rfl, hg.frame _, fun h => by cases h⟩

theorem over : Rows.digitsHexRow.holds Try.pinned (OpenSpec.ofChange Rows.digitsHexSpec) :=
  OpenClaim.holds_of_wide 7 Try.f7 rfl rfl rfl rfl rfl rfl rfl ⟨rfl, rfl, rfl, rfl, rfl⟩ rfl rfl rfl rfl rfl (by kernel_rfl) Try.func7 (by kernel_rfl)
    (of_decide_eq_true (by kernel_rfl)) (by unfold Func.isWrapper; first | (rw [if_pos (by decide +kernel)]; kernel_rfl) | (rw [if_neg (by decide +kernel)]; exact ⟨rfl, rfl⟩))
    (fun os started H enc _ => lifted os started H enc)

theorem proved : Rows.DigitsHexSaid :=
  over

end digitsHex
end Go.Proofs.Ytldipjlepofdgaa
