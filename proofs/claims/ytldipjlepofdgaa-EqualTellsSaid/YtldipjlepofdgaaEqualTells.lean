/- The law EqualTells: for all texts, Scan, Nought, Unlike, First and Pick answer as the reference does; no conditions. -/
import Derived.Test.YtldipjlepofdgaaRows
import Derived.WalkKit
import Derived.ProofKit
import Derived.OpenShut
import Derived.Lib.Hide
import Derived.Test.YtldipjlepofdgaaEqAwake
import Derived.Test.YtldipjlepofdgaaRefEq
namespace Go.Proofs.Ytldipjlepofdgaa.equalTells
open Go.ChangeShapes Go.WideShapes Go.ChangeAt Go.RowKit

set_option maxRecDepth 100000 in
set_option maxHeartbeats 4000000 in
theorem core (a b : ByteArray) (yes : Bool) (ha : a.size ≤ 500) (hb : b.size ≤ 500) (x z : Bool) (n k U F : Int) (P : ByteArray)
    (c1 : Mak 48 #[.string a, .string b] (.tuple #[.bool x, .int .i64 n])) (c2 : Mak 49 #[.string a, .string b] (.tuple #[.bool x, .int .i64 n]))
    (c3 : Mak 50 #[.string a] (.tuple #[.bool z, .int .i64 k])) (c4 : Ret 51 #[.string a] (.tuple #[.bool z, .int .i64 k]))
    (c5 : Mak 52 #[.string a, .string b] (.int .i64 U)) (c6 : Mak 53 #[.string a, .string b] (.int .i64 U))
    (c7 : Mak 54 #[.string a, .string b] (.int .i64 F)) (c8 : Mak 55 #[.string a, .string b] (.int .i64 F))
    (c9 : Mak 56 #[.bool yes, .string a, .string b] (.string P)) (c10 : Ret 57 #[.bool yes, .string a, .string b] (.string P)) (w : World) :
    Calls Try.prog 10 #[.string a, .string b, .bool yes] w fun e w' => e = .returned (.bool true) ∧ Since w w' := by
  have H0 := Lib.hid (Since.refl w)
  have b1 : (x == x) = true := by simp
  have b2 : (z == z) = true := by simp
  have b3 : (n == n) = true := by simp
  have b4 : (k == k) = true := by simp
  have b5 : (U == U) = true := by simp
  have b6 : (F == F) = true := by simp
  go_enter Try.func10, Try.ntmps10
  go_wp2_with fail
  refine (c1).calls H0.out ?_
  intro w1 h1
  have H1 := Lib.hid h1
  clear h1
  go_wp2_with fail
  refine (c2).calls H1.out ?_
  intro w2 h2
  have H2 := Lib.hid h2
  clear h2
  go_wp2_with fail
  refine (c3).calls H2.out ?_
  intro w3 h3
  have H3 := Lib.hid h3
  clear h3
  go_wp2_with fail
  refine (c4).calls ?_
  go_wp2_with fail
  refine (c5).calls H3.out ?_
  intro w4 h4
  have H4 := Lib.hid h4
  clear h4
  go_wp2_with fail
  refine (c6).calls H4.out ?_
  intro w5 h5
  have H5 := Lib.hid h5
  clear h5
  go_wp2_with fail
  refine (c7).calls H5.out ?_
  intro w6 h6
  have H6 := Lib.hid h6
  clear h6
  go_wp2_with fail
  refine (c8).calls H6.out ?_
  intro w7 h7
  have H7 := Lib.hid h7
  clear h7
  go_wp2_with fail
  refine (c9).calls H7.out ?_
  intro w8 h8
  have H8 := Lib.hid h8
  clear h8
  go_wp2_with fail
  refine (c10).calls ?_
  go_wp2_with fail
  refine (Eql.awake_mak).calls H8.out ?_
  intro w9 h9
  have H9 := Lib.hid h9
  clear h9
  go_wp2_with fail
  go_ret
  exact ⟨rfl, H9.out⟩

theorem walk (a0 a1 : ByteArray) (a2 : Bool) (w0 : a0.size ≤ maxLen) (w1 : a1.size ≤ maxLen) (w : World) :
    Calls Try.prog 10 #[.string a0, .string a1, .bool a2] w fun e w' => e = .returned (.bool true) ∧ Below w.heap.size w w' := by
  unfold maxLen at w0 w1
  by_cases hs : a0.size ≤ 500
  · by_cases ht : a1.size ≤ 500
    · have hp : Mak 56 #[.bool a2, .string a0, .string a1] (.string (if a0.size ≠ a1.size then ⟨#[]⟩ else if a2 = true then a0 else a1)) := by
        by_cases h : a0.size = a1.size
        · rw [if_neg (fun h2 => h2 h)]
          cases a2 with
          | true => rw [if_pos rfl]; exact Eql.pick_yes a0 a1 _ rfl h.symm (by omega)
          | false => rw [if_neg (by decide)]; exact Eql.pick_not a0 a1 _ rfl h.symm (by omega)
        · rw [if_pos h]; exact (Eql.pick_no a2 a0 a1 h).mak
      exact core a0 a1 a2 hs ht _ _ _ _ _ _ _ (Eql.scan_any a0 a1 (by omega) (by omega) _ rfl _ rfl) (RefEql.scan_any a0 a1 (by omega) (by omega) _ rfl _ rfl) (Eql.nought_any a0 (by omega) _ rfl) (RefEql.nought_any a0 (by omega) _ rfl)
        (Eql.unlike_any a0 a1 (by omega) (by omega) _ rfl) (RefEql.unlike_any a0 a1 (by omega) (by omega) _ rfl _ rfl) (Eql.first_any a0 a1 (by omega) (by omega) _ rfl) (RefEql.first_any a0 a1 (by omega) (by omega) _ rfl _ rfl) hp (RefEql.pick_any a2 a0 a1 _ rfl) w
    · have H0 := Lib.hid (Since.refl w)
      go_enter Try.func10, Try.ntmps10
      go_wp2_with fail
      all_goals
        refine (Eql.awake_mak).calls H0.out ?_
        intro w3 h3
        have H3 := Lib.hid h3
        clear h3
        go_wp2_with fail
        go_ret
        exact ⟨rfl, H3.out⟩
  · have H0 := Lib.hid (Since.refl w)
    go_enter Try.func10, Try.ntmps10
    go_wp2_with fail
    all_goals
      refine (Eql.awake_mak).calls H0.out ?_
      intro w3 h3
      have H3 := Lib.hid h3
      clear h3
      go_wp2_with fail
      go_ret
      exact ⟨rfl, H3.out⟩

theorem own : ownKnob Try.prog.godebug = none := by kernel_rfl

set_option maxRecDepth 100000 in
theorem lifted (os : Os) (started : os.Started) (H : Type) (enc : TypeId × Value → H) :
    ReturnsInHanded {} Try.checked os 10 .any (Rows.equalTellsSpec.pre6 enc Try.prog Try.f10 Rows.equalTellsRow.domain false) (Rows.equalTellsSpec.post enc Try.prog Try.f10 false true false false) := by
  refine returnsInHanded_of_change (C := Try.checked) own started (by kernel_rfl) Try.func10
    (ChangeSpec.witness6 (enc := enc) (C := Try.checked) false ⟨#[], #[.string ⟨#[]⟩, .string ⟨#[]⟩, .bool false], []⟩ 8 (by kernel_rfl) (by kernel_rfl) (by kernel_rfl) (by kernel_rfl)) ?_
  intro W base args ds gs before hval0 hW hcnd _
  have hval : ∀ (j : Nat) t v, Try.f10.params[j]? = some t → args[j]? = some v → Value.okWide Try.prog W .any base t v := hval0
  have hW' := hW
  obtain ⟨p, q, hA0, hV, rfl, hfz, hnd⟩ := hW
  have hA : DataW.TrodAll enc Try.prog W 0 (fun _ => true) true Try.f10.params.toList args.toList ds p := hA0
  rw [Try.params10] at hA hval
  obtain ⟨v0, vs0, d0, ds0, p0, q0, hargs, rfl, rfl, h0, r0⟩ := trodAll_cons hA
  obtain ⟨v1, vs1, d1, ds1, p1, q1, rfl, rfl, rfl, h1, r1⟩ := trodAll_cons r0
  obtain ⟨v2, vs2, d2, ds2, p2, q2, rfl, rfl, rfl, h2, r2⟩ := trodAll_cons r1
  obtain ⟨rfl, rfl, rfl⟩ := trodAll_nil r2
  obtain rfl : args = #[v0, v1, v2] := by cases args; simp_all
  obtain ⟨rfl, rfl⟩ := trodVars_none hV
  obtain ⟨a0, rfl, rfl, rfl, w0⟩ := Go.ChangeMaps.open_string Try.underlying9 (hval 0 9 v0 rfl rfl) h0
  obtain ⟨a1, rfl, rfl, rfl, w1⟩ := Go.ChangeMaps.open_string Try.underlying9 (hval 1 9 v1 rfl rfl) h1
  obtain ⟨a2, rfl, rfl, rfl⟩ := open_bool Try.underlying4 (hval 2 4 v2 rfl rfl) h2
  clear hA0 hval0
  simp only [List.append_nil] at hW'
  refine (walk a0 a1 a2 w0 w1 W).mono fun e W' ⟨he, hg⟩ => ?_
  subst he
  exact ⟨_, rfl, _, _, _, _, _, [], hW', (trodAll_cons_mk (shut_bool Try.underlying4 _) trodAll_mk0), (trodAll_cons_mk (Go.ChangeMaps.shut_string Try.underlying9 w0) (trodAll_cons_mk (Go.ChangeMaps.shut_string Try.underlying9 w1) (trodAll_cons_mk (shut_bool Try.underlying4 _) trodAll_mk0))), rfl, hg.frame _, fun h => by cases h⟩

theorem over : Rows.equalTellsRow.holds Try.pinned (OpenSpec.ofChange Rows.equalTellsSpec) :=
  OpenClaim.holds_of_wide 10 Try.f10 rfl rfl rfl rfl rfl rfl rfl ⟨rfl, rfl, rfl, rfl, rfl⟩ rfl rfl rfl rfl rfl (by kernel_rfl) Try.func10 (by kernel_rfl)
    (of_decide_eq_true (by kernel_rfl)) (by unfold Func.isWrapper; first | (rw [if_pos (by decide +kernel)]; kernel_rfl) | (rw [if_neg (by decide +kernel)]; exact ⟨rfl, rfl⟩))
    (fun os started H enc _ => lifted os started H enc)

theorem proved : Rows.EqualTellsSaid :=
  over

end Go.Proofs.Ytldipjlepofdgaa.equalTells
