/- The law RoundTells: each step of a round makes of any state, or of what is none, what the document says; no conditions. -/
import Derived.Test.YtoblmddnefmpoaaRows
import Derived.WalkKit
import Derived.ProofKit
import Derived.OpenShut
import Derived.Lib.Hide
import Derived.Test.YtoblmddnefmpoaaRndAwake
import Derived.Test.YtoblmddnefmpoaaRefRnd
namespace Go.Proofs.Ytoblmddnefmpoaa.roundTells
open Go.ChangeShapes Go.WideShapes Go.ChangeAt Go.RowKit

set_option maxRecDepth 100000 in
set_option maxHeartbeats 4000000 in
theorem core (s k : ByteArray) (b : Bool) (h1 : (s.size : Int) ≤ 100) (h2 : (k.size : Int) ≤ 100) (A B C D E F G : ByteArray)
    (c1 : Mak 27 #[.string s] (.string A)) (d1 : Mak 28 #[.string s] (.string A))
    (c2 : Mak 29 #[.string s] (.string B)) (d2 : Mak 30 #[.string s] (.string B))
    (c3 : Mak 31 #[.string s] (.string C)) (d3 : Mak 32 #[.string s] (.string C))
    (c4 : Mak 33 #[.string s] (.string D)) (d4 : Mak 34 #[.string s] (.string D))
    (c5 : Mak 35 #[.string s, .string k] (.string E)) (d5 : Mak 36 #[.string s, .string k] (.string E))
    (c6 : Mak 37 #[.string s, .string k, .bool b] (.string F)) (d6 : Mak 38 #[.string s, .string k, .bool b] (.string F))
    (c7 : Mak 39 #[.string s, .string k, .bool b] (.string G)) (d7 : Mak 40 #[.string s, .string k, .bool b] (.string G)) (w : World) :
    Calls Try.prog 6 #[.string s, .string k, .bool b] w fun e w' => e = .returned (.bool true) ∧ Since w w' := by
  have H0 := Lib.hid (Since.refl w)
  have q1 := str_eq_t (rfl : A = A)
  have q2 := str_eq_t (rfl : B = B)
  have q3 := str_eq_t (rfl : C = C)
  have q4 := str_eq_t (rfl : D = D)
  have q5 := str_eq_t (rfl : E = E)
  have q6 := str_eq_t (rfl : F = F)
  have q7 := str_eq_t (rfl : G = G)
  go_enter Try.func6, Try.ntmps6
  go_wp2_with fail
  refine c1.calls H0.out ?_
  intro w1 h1
  have H1 := Lib.hid h1
  clear h1
  go_wp2_with fail
  refine d1.calls H1.out ?_
  intro w2 h2
  have H2 := Lib.hid h2
  clear h2
  go_wp2_with fail
  refine c2.calls H2.out ?_
  intro w3 h3
  have H3 := Lib.hid h3
  clear h3
  go_wp2_with fail
  refine d2.calls H3.out ?_
  intro w4 h4
  have H4 := Lib.hid h4
  clear h4
  go_wp2_with fail
  refine c3.calls H4.out ?_
  intro w5 h5
  have H5 := Lib.hid h5
  clear h5
  go_wp2_with fail
  refine d3.calls H5.out ?_
  intro w6 h6
  have H6 := Lib.hid h6
  clear h6
  go_wp2_with fail
  refine c4.calls H6.out ?_
  intro w7 h7
  have H7 := Lib.hid h7
  clear h7
  go_wp2_with fail
  refine d4.calls H7.out ?_
  intro w8 h8
  have H8 := Lib.hid h8
  clear h8
  go_wp2_with fail
  refine c5.calls H8.out ?_
  intro w9 h9
  have H9 := Lib.hid h9
  clear h9
  go_wp2_with fail
  refine d5.calls H9.out ?_
  intro w10 h10
  have H10 := Lib.hid h10
  clear h10
  go_wp2_with fail
  refine c6.calls H10.out ?_
  intro w11 h11
  have H11 := Lib.hid h11
  clear h11
  go_wp2_with fail
  refine d6.calls H11.out ?_
  intro w12 h12
  have H12 := Lib.hid h12
  clear h12
  go_wp2_with fail
  refine c7.calls H12.out ?_
  intro w13 h13
  have H13 := Lib.hid h13
  clear h13
  go_wp2_with fail
  refine d7.calls H13.out ?_
  intro w14 h14
  have H14 := Lib.hid h14
  clear h14
  go_wp2_with fail
  refine Rnd.awake_mak.calls H14.out ?_
  intro w15 h15
  have H15 := Lib.hid h15
  clear h15
  go_wp2_with fail
  go_ret
  exact ⟨rfl, H15.out⟩
theorem walk (a0 a1 : ByteArray) (a2 : Bool) (w0 : a0.size ≤ maxLen) (w1 : a1.size ≤ maxLen) (w : World) :
    Calls Try.prog 6 #[.string a0, .string a1, .bool a2] w fun e w' => e = .returned (.bool true) ∧ Below w.heap.size w w' := by
  unfold maxLen at w0 w1
  by_cases hl : a0.size ≤ 100 ∧ a1.size ≤ 100
  · obtain ⟨l0, l1⟩ := hl
    by_cases h0 : a0.size = 16
    · by_cases h1 : a1.size = 16
      · exact core a0 a1 a2 (by omega) (by omega) _ _ _ _ _ _ _ (Rnd.shift_mak a0 h0 _ rfl) (RefRnd.shift_mak a0 h0 _ rfl) (Rnd.unshift_mak a0 h0 _ rfl) (RefRnd.unshift_mak a0 h0 _ rfl) (Rnd.mix_mak a0 h0 _ rfl) (RefRnd.mix_mak a0 h0 _ rfl) (Rnd.unmix_mak a0 h0 _ rfl) (RefRnd.unmix_mak a0 h0 _ rfl)
          (Rnd.key_mak a0 a1 h0 h1 _ rfl) (RefRnd.key_mak a0 a1 h0 h1 _ rfl) (Rnd.do_mak a0 a1 h0 h1 a2 _ rfl) (RefRnd.do_mak a0 a1 h0 h1 a2 _ rfl) (Rnd.undo_mak a0 a1 h0 h1 a2 _ rfl) (RefRnd.undo_mak a0 a1 h0 h1 a2 _ rfl) w
      · exact core a0 a1 a2 (by omega) (by omega) _ _ _ _ ⟨#[]⟩ ⟨#[]⟩ ⟨#[]⟩ (Rnd.shift_mak a0 h0 _ rfl) (RefRnd.shift_mak a0 h0 _ rfl) (Rnd.unshift_mak a0 h0 _ rfl) (RefRnd.unshift_mak a0 h0 _ rfl) (Rnd.mix_mak a0 h0 _ rfl) (RefRnd.mix_mak a0 h0 _ rfl) (Rnd.unmix_mak a0 h0 _ rfl) (RefRnd.unmix_mak a0 h0 _ rfl)
          (Rnd.key_no a0 a1 (Or.inr h1) (by omega) (by omega)).mak (RefRnd.key_no a0 a1 (Or.inr h1) (by omega) (by omega)).mak (Rnd.do_no a0 a1 (Or.inr h1) (by omega) (by omega) a2) (RefRnd.do_no a0 a1 a2 (Or.inr h1) (by omega) (by omega)).mak (Rnd.undo_no a0 a1 (Or.inr h1) (by omega) (by omega) a2) (RefRnd.undo_no a0 a1 a2 (Or.inr h1) (by omega) (by omega)).mak w
    · exact core a0 a1 a2 (by omega) (by omega) ⟨#[]⟩ ⟨#[]⟩ ⟨#[]⟩ ⟨#[]⟩ ⟨#[]⟩ ⟨#[]⟩ ⟨#[]⟩ (Rnd.shift_mak_no a0 h0 (by omega)) (RefRnd.shift_mak_no a0 h0 (by omega)) (Rnd.unshift_mak_no a0 h0 (by omega)) (RefRnd.unshift_mak_no a0 h0 (by omega)) (Rnd.mix_mak_no a0 h0 (by omega)) (RefRnd.mix_mak_no a0 h0 (by omega)) (Rnd.unmix_mak_no a0 h0 (by omega)) (RefRnd.unmix_mak_no a0 h0 (by omega))
          (Rnd.key_no a0 a1 (Or.inl h0) (by omega) (by omega)).mak (RefRnd.key_no a0 a1 (Or.inl h0) (by omega) (by omega)).mak (Rnd.do_no a0 a1 (Or.inl h0) (by omega) (by omega) a2) (RefRnd.do_no a0 a1 a2 (Or.inl h0) (by omega) (by omega)).mak (Rnd.undo_no a0 a1 (Or.inl h0) (by omega) (by omega) a2) (RefRnd.undo_no a0 a1 a2 (Or.inl h0) (by omega) (by omega)).mak w
  · have H0 := Lib.hid (Since.refl w)
    by_cases h1 : a0.size ≤ 100
    · have h2 : ¬ a1.size ≤ 100 := fun h => hl ⟨h1, h⟩
      clear hl
      go_enter Try.func6, Try.ntmps6
      go_wp2_with fail
      all_goals
        refine Rnd.awake_mak.calls H0.out ?_
        intro w1 h1
        have H1 := Lib.hid h1
        clear h1
        go_wp2_with fail
        go_ret
        exact ⟨rfl, H1.out⟩
    · clear hl
      go_enter Try.func6, Try.ntmps6
      go_wp2_with fail
      all_goals
        refine Rnd.awake_mak.calls H0.out ?_
        intro w1 h1
        have H1 := Lib.hid h1
        clear h1
        go_wp2_with fail
        go_ret
        exact ⟨rfl, H1.out⟩

theorem own : ownKnob Try.prog.godebug = none := by kernel_rfl

set_option maxRecDepth 100000 in
theorem lifted (os : Os) (started : os.Started) (H : Type) (enc : TypeId × Value → H) :
    ReturnsInHanded {} Try.checked os 6 .any (Rows.roundTellsSpec.pre6 enc Try.prog Try.f6 Rows.roundTellsRow.domain false) (Rows.roundTellsSpec.post enc Try.prog Try.f6 false true false false) := by
  refine returnsInHanded_of_change (C := Try.checked) own started (by kernel_rfl) Try.func6
    (ChangeSpec.witness6 (enc := enc) (C := Try.checked) false ⟨#[], #[.string ⟨#[]⟩, .string ⟨#[]⟩, .bool false], []⟩ 8 (by kernel_rfl) (by kernel_rfl) (by kernel_rfl) (by kernel_rfl)) ?_
  intro W base args ds gs before hval0 hW hcnd _
  have hval : ∀ (j : Nat) t v, Try.f6.params[j]? = some t → args[j]? = some v → Value.okWide Try.prog W .any base t v := hval0
  have hW' := hW
  obtain ⟨p, q, hA0, hV, rfl, hfz, hnd⟩ := hW
  have hA : DataW.TrodAll enc Try.prog W 0 (fun _ => true) true Try.f6.params.toList args.toList ds p := hA0
  rw [Try.params6] at hA hval
  obtain ⟨v0, vs0, d0, ds0, p0, q0, hargs, rfl, rfl, h0, r0⟩ := trodAll_cons hA
  obtain ⟨v1, vs1, d1, ds1, p1, q1, rfl, rfl, rfl, h1, r1⟩ := trodAll_cons r0
  obtain ⟨v2, vs2, d2, ds2, p2, q2, rfl, rfl, rfl, h2, r2⟩ := trodAll_cons r1
  obtain ⟨rfl, rfl, rfl⟩ := trodAll_nil r2
  obtain rfl : args = #[v0, v1, v2] := by cases args; simp_all
  obtain ⟨rfl, rfl⟩ := trodVars_none hV
  obtain ⟨a0, rfl, rfl, rfl, w0⟩ := Go.ChangeMaps.open_string Try.underlying9 (hval 0 9 v0 rfl rfl) h0
  obtain ⟨a1, rfl, rfl, rfl, w1⟩ := Go.ChangeMaps.open_string Try.underlying9 (hval 1 9 v1 rfl rfl) h1
  obtain ⟨a2, rfl, rfl, rfl⟩ := open_bool Try.underlying4 (hval 2 4 v2 rfl rfl) h2
  clear hA0 hval0
  simp only [List.append_nil] at hW'
  refine (walk a0 a1 a2 w0 w1 W).mono fun e W' ⟨he, hg⟩ => ?_
  subst he
  exact ⟨_, rfl, _, _, _, _, _, [], hW', (trodAll_cons_mk (shut_bool Try.underlying4 _) trodAll_mk0), (trodAll_cons_mk (Go.ChangeMaps.shut_string Try.underlying9 w0) (trodAll_cons_mk (Go.ChangeMaps.shut_string Try.underlying9 w1) (trodAll_cons_mk (shut_bool Try.underlying4 _) trodAll_mk0))), rfl, hg.frame _, fun h => by cases h⟩

theorem over : Rows.roundTellsRow.holds Try.pinned (OpenSpec.ofChange Rows.roundTellsSpec) :=
  OpenClaim.holds_of_wide 6 Try.f6 rfl rfl rfl rfl rfl rfl rfl ⟨rfl, rfl, rfl, rfl, rfl⟩ rfl rfl rfl rfl rfl (by kernel_rfl) Try.func6 (by kernel_rfl)
    (of_decide_eq_true (by kernel_rfl)) (by unfold Func.isWrapper; first | (rw [if_pos (by decide +kernel)]; kernel_rfl) | (rw [if_neg (by decide +kernel)]; exact ⟨rfl, rfl⟩))
    (fun os started H enc _ => lifted os started H enc)

theorem proved : Rows.RoundTellsSaid :=
  over

end Go.Proofs.Ytoblmddnefmpoaa.roundTells
