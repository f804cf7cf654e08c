/- The law RoundAdds: mixing goes over sums: a sum that is mixed is the sum of what was mixed; no conditions. -/
import Derived.Test.YtoblmddnefmpoaaRows
import Derived.WalkKit
import Derived.ProofKit
import Derived.OpenShut
import Derived.Lib.Hide
import Derived.Test.YtoblmddnefmpoaaRndAwake
namespace Go.Proofs.Ytoblmddnefmpoaa.roundAdds
open Go.ChangeShapes Go.WideShapes Go.ChangeAt Go.RowKit

set_option maxRecDepth 100000 in
set_option maxHeartbeats 4000000 in
theorem core (s t : ByteArray) (h1 : (s.size : Int) = 16) (h2 : (t.size : Int) = 16) (A B C D E F G : ByteArray)
    (c1 : Mak 35 #[.string s, .string t] (.string A)) (c2 : Mak 31 #[.string A] (.string B)) (c3 : Mak 31 #[.string s] (.string C)) (c4 : Mak 31 #[.string t] (.string D)) (c5 : Mak 35 #[.string C, .string D] (.string B))
    (d2 : Mak 33 #[.string A] (.string E)) (d3 : Mak 33 #[.string s] (.string F)) (d4 : Mak 33 #[.string t] (.string G)) (d5 : Mak 35 #[.string F, .string G] (.string E)) (w : World) :
    Calls Try.prog 8 #[.string s, .string t] w fun e w' => e = .returned (.bool true) ∧ Since w w' := by
  have H0 := Lib.hid (Since.refl w)
  have hq := str_eq_t (rfl : B = B)
  have hq2 := str_eq_t (rfl : E = E)
  go_enter Try.func8, Try.ntmps8
  go_wp2_with fail
  refine c1.calls H0.out ?_
  intro w1 h1
  have H1 := Lib.hid h1
  clear h1
  go_wp2_with fail
  refine c2.calls H1.out ?_
  intro w2 h2
  have H2 := Lib.hid h2
  clear h2
  go_wp2_with fail
  refine c3.calls H2.out ?_
  intro w3 h3
  have H3 := Lib.hid h3
  clear h3
  go_wp2_with fail
  refine c4.calls H3.out ?_
  intro w4 h4
  have H4 := Lib.hid h4
  clear h4
  go_wp2_with fail
  refine c5.calls H4.out ?_
  intro w5 h5
  have H5 := Lib.hid h5
  clear h5
  go_wp2_with fail
  refine c1.calls H5.out ?_
  intro w6 h6
  have H6 := Lib.hid h6
  clear h6
  go_wp2_with fail
  refine d2.calls H6.out ?_
  intro w7 h7
  have H7 := Lib.hid h7
  clear h7
  go_wp2_with fail
  refine d3.calls H7.out ?_
  intro w8 h8
  have H8 := Lib.hid h8
  clear h8
  go_wp2_with fail
  refine d4.calls H8.out ?_
  intro w9 h9
  have H9 := Lib.hid h9
  clear h9
  go_wp2_with fail
  refine d5.calls H9.out ?_
  intro w10 h10
  have H10 := Lib.hid h10
  clear h10
  go_wp2_with fail
  refine Rnd.awake_mak.calls H10.out ?_
  intro w11 h11
  have H11 := Lib.hid h11
  clear h11
  go_wp2_with fail
  go_ret
  exact ⟨rfl, H11.out⟩
set_option maxHeartbeats 4000000 in
theorem core_no (s t : ByteArray) (hm : s.size ≤ 9223372036854775807) (hm2 : t.size ≤ 9223372036854775807) (h : s.size ≠ 16 ∨ t.size ≠ 16) (w : World) :
    Calls Try.prog 8 #[.string s, .string t] w fun e w' => e = .returned (.bool true) ∧ Since w w' := by
  have H0 := Lib.hid (Since.refl w)
  by_cases h1 : s.size = 16
  · have hb : ((t.size : Int) != 16) = true := by rw [bne_iff_ne]; omega
    have hs : (s.size : Int) = 16 := by omega
    clear h h1
    go_enter Try.func8, Try.ntmps8
    go_wp2_with fail
    refine Rnd.awake_mak.calls H0.out ?_
    intro w1 h1
    have H1 := Lib.hid h1
    clear h1
    go_wp2_with fail
    go_ret
    exact ⟨rfl, H1.out⟩
  · have hb : ((s.size : Int) != 16) = true := by rw [bne_iff_ne]; omega
    clear h h1
    go_enter Try.func8, Try.ntmps8
    go_wp2_with fail
    refine Rnd.awake_mak.calls H0.out ?_
    intro w1 h1
    have H1 := Lib.hid h1
    clear h1
    go_wp2_with fail
    go_ret
    exact ⟨rfl, H1.out⟩
theorem walk (a0 a1 : ByteArray) (w0 : a0.size ≤ maxLen) (w1 : a1.size ≤ maxLen) (w : World) :
    Calls Try.prog 8 #[.string a0, .string a1] w fun e w' => e = .returned (.bool true) ∧ Below w.heap.size w w' := by
  unfold maxLen at w0 w1
  by_cases h : a0.size = 16 ∧ a1.size = 16
  · obtain ⟨h0, h1⟩ := h
    have z : ∀ l : List UInt8, l.length = 16 → (bs l).size = 16 := fun l h => by rw [size_bs, h]
    exact core a0 a1 (by omega) (by omega) (bs (Rnd.xorL a0.data.toList a1.data.toList)) (bs (Rnd.mixL Rnd.mixF (Rnd.xorL a0.data.toList a1.data.toList))) (bs (Rnd.mixL Rnd.mixF a0.data.toList)) (bs (Rnd.mixL Rnd.mixF a1.data.toList)) (bs (Rnd.mixL Rnd.unmixF (Rnd.xorL a0.data.toList a1.data.toList))) (bs (Rnd.mixL Rnd.unmixF a0.data.toList)) (bs (Rnd.mixL Rnd.unmixF a1.data.toList))
      (Rnd.key_mak a0 a1 h0 h1 _ rfl) (Rnd.mix_mak _ (z _ (Rnd.xorL_len _ _)) _ rfl) (Rnd.mix_mak _ h0 _ rfl) (Rnd.mix_mak _ h1 _ rfl) (Rnd.key_mak _ _ (z _ (Rnd.mixL_len _ _)) (z _ (Rnd.mixL_len _ _)) _ (by rw [Rnd.mix_add]; rfl))
      (Rnd.unmix_mak _ (z _ (Rnd.xorL_len _ _)) _ rfl) (Rnd.unmix_mak _ h0 _ rfl) (Rnd.unmix_mak _ h1 _ rfl) (Rnd.key_mak _ _ (z _ (Rnd.mixL_len _ _)) (z _ (Rnd.mixL_len _ _)) _ (by rw [Rnd.mix_add]; rfl)) w
  · exact core_no a0 a1 w0 w1 (by omega) w

theorem own : ownKnob Try.prog.godebug = none := by kernel_rfl

set_option maxRecDepth 100000 in
theorem lifted (os : Os) (started : os.Started) (H : Type) (enc : TypeId × Value → H) :
    ReturnsInHanded {} Try.checked os 8 .any (Rows.roundAddsSpec.pre6 enc Try.prog Try.f8 Rows.roundAddsRow.domain false) (Rows.roundAddsSpec.post enc Try.prog Try.f8 false true false false) := by
  refine returnsInHanded_of_change (C := Try.checked) own started (by kernel_rfl) Try.func8
    (ChangeSpec.witness6 (enc := enc) (C := Try.checked) false ⟨#[], #[.string ⟨#[]⟩, .string ⟨#[]⟩], []⟩ 8 (by kernel_rfl) (by kernel_rfl) (by kernel_rfl) (by kernel_rfl)) ?_
  intro W base args ds gs before hval0 hW hcnd _
  have hval : ∀ (j : Nat) t v, Try.f8.params[j]? = some t → args[j]? = some v → Value.okWide Try.prog W .any base t v := hval0
  have hW' := hW
  obtain ⟨p, q, hA0, hV, rfl, hfz, hnd⟩ := hW
  have hA : DataW.TrodAll enc Try.prog W 0 (fun _ => true) true Try.f8.params.toList args.toList ds p := hA0
  rw [Try.params8] at hA hval
  obtain ⟨v0, vs0, d0, ds0, p0, q0, hargs, rfl, rfl, h0, r0⟩ := trodAll_cons hA
  obtain ⟨v1, vs1, d1, ds1, p1, q1, rfl, rfl, rfl, h1, r1⟩ := trodAll_cons r0
  obtain ⟨rfl, rfl, rfl⟩ := trodAll_nil r1
  obtain rfl : args = #[v0, v1] := by cases args; simp_all
  obtain ⟨rfl, rfl⟩ := trodVars_none hV
  obtain ⟨a0, rfl, rfl, rfl, w0⟩ := Go.ChangeMaps.open_string Try.underlying9 (hval 0 9 v0 rfl rfl) h0
  obtain ⟨a1, rfl, rfl, rfl, w1⟩ := Go.ChangeMaps.open_string Try.underlying9 (hval 1 9 v1 rfl rfl) h1
  clear hA0 hval0
  simp only [List.append_nil] at hW'
  refine (walk a0 a1 w0 w1 W).mono fun e W' ⟨he, hg⟩ => ?_
  subst he
  exact ⟨_, rfl, _, _, _, _, _, [], hW', (trodAll_cons_mk (shut_bool Try.underlying4 _) trodAll_mk0), (trodAll_cons_mk (Go.ChangeMaps.shut_string Try.underlying9 w0) (trodAll_cons_mk (Go.ChangeMaps.shut_string Try.underlying9 w1) trodAll_mk0)), rfl, hg.frame _, fun h => by cases h⟩

theorem over : Rows.roundAddsRow.holds Try.pinned (OpenSpec.ofChange Rows.roundAddsSpec) :=
  OpenClaim.holds_of_wide 8 Try.f8 rfl rfl rfl rfl rfl rfl rfl ⟨rfl, rfl, rfl, rfl, rfl⟩ rfl rfl rfl rfl rfl (by kernel_rfl) Try.func8 (by kernel_rfl)
    (of_decide_eq_true (by kernel_rfl)) (by unfold Func.isWrapper; first | (rw [if_pos (by decide +kernel)]; kernel_rfl) | (rw [if_neg (by decide +kernel)]; exact ⟨rfl, rfl⟩))
    (fun os started H enc _ => lifted os started H enc)

theorem proved : Rows.RoundAddsSaid :=
  over

end Go.Proofs.Ytoblmddnefmpoaa.roundAdds
