/- The law EqualTurns: for all texts, all is told alike the other way round; two are the same just if they are unlike at no place; how much is looked at does not hang on what they have; no conditions. -/
import Derived.Test.YtldipjlepofdgaaRows
import Derived.WalkKit
import Derived.ProofKit
import Derived.OpenShut
import Derived.Lib.Hide
import Derived.Test.YtldipjlepofdgaaEqAwake
namespace Go.Proofs.Ytldipjlepofdgaa.equalTurns
open Go.ChangeShapes Go.WideShapes Go.ChangeAt Go.RowKit

set_option maxRecDepth 100000 in
set_option maxHeartbeats 4000000 in
theorem core (a b c : ByteArray) (ha : a.size ≤ 500) (hb : b.size ≤ 500) (hc : c.size ≤ 500) (x y : Bool) (n k U F : Int) (hx : x = true ∧ a = b ∧ U = 0 ∨ x = false ∧ a ≠ b ∧ U ≠ 0) (hk : b.size = c.size ∧ k = n ∨ b.size ≠ c.size)
    (c1 : Mak 48 #[.string a, .string b] (.tuple #[.bool x, .int .i64 n])) (c2 : Mak 48 #[.string b, .string a] (.tuple #[.bool x, .int .i64 n]))
    (c3 : Mak 52 #[.string a, .string b] (.int .i64 U)) (c4 : Mak 52 #[.string b, .string a] (.int .i64 U))
    (c5 : Mak 54 #[.string a, .string b] (.int .i64 F)) (c6 : Mak 54 #[.string b, .string a] (.int .i64 F))
    (c7 : Mak 48 #[.string a, .string c] (.tuple #[.bool y, .int .i64 k])) (w : World) :
    Calls Try.prog 11 #[.string a, .string b, .string c] w fun e w' => e = .returned (.bool true) ∧ Since w w' := by
  have H0 := Lib.hid (Since.refl w)
  have b3 : (n != n) = false := by simp
  have b33 : (n == n) = true := by simp
  have b5 : (U != U) = false := by simp
  have b6 : (F != F) = false := by simp
  rcases hx with ⟨rfl, hab, hU⟩ | ⟨rfl, hab, hU⟩
  · have bs := str_eq_t hab
    have bu : (U == 0) = true := by rw [hU]; rfl
    have Hab := Lib.hid hab
    clear hab
    have HU := Lib.hid hU
    clear hU
    go_enter Try.func11, Try.ntmps11
    go_wp2_with fail
    refine (c1).calls H0.out ?_
    intro w1 h1
    have H1 := Lib.hid h1
    clear h1
    go_wp2_with fail
    refine (c2).calls H1.out ?_
    intro w2 h2
    have H2 := Lib.hid h2
    clear h2
    go_wp2_with fail
    refine (c3).calls H2.out ?_
    intro w3 h3
    have H3 := Lib.hid h3
    clear h3
    go_wp2_with fail
    refine (c3).calls H3.out ?_
    intro w4 h4
    have H4 := Lib.hid h4
    clear h4
    go_wp2_with fail
    refine (c4).calls H4.out ?_
    intro w5 h5
    have H5 := Lib.hid h5
    clear h5
    go_wp2_with fail
    refine (c5).calls H5.out ?_
    intro w6 h6
    have H6 := Lib.hid h6
    clear h6
    go_wp2_with fail
    refine (c6).calls H6.out ?_
    intro w7 h7
    have H7 := Lib.hid h7
    clear h7
    go_wp2_with fail
    have H8 := H7
    refine (c7).calls H8.out ?_
    intro w9 h9
    have H9 := Lib.hid h9
    clear h9
    rcases hk with ⟨hbc, hk⟩ | hbc
    · subst hk
      have bl : ((b.size : Int) != (c.size : Int)) = false := by rw [hbc]; simp
      have Hbc := Lib.hid hbc
      clear hbc
      go_wp2_with fail
      refine (Eql.awake_mak).calls H9.out ?_
      intro w10 h10
      have H10 := Lib.hid h10
      clear h10
      go_wp2_with fail
      go_ret
      exact ⟨rfl, H10.out⟩
    · have bl : ((b.size : Int) != (c.size : Int)) = true := by rw [bne_iff_ne]; omega
      clear hbc
      go_wp2_with fail
      refine (Eql.awake_mak).calls H9.out ?_
      intro w10 h10
      have H10 := Lib.hid h10
      clear h10
      go_wp2_with fail
      go_ret
      exact ⟨rfl, H10.out⟩
  · have bs := str_ne_f hab
    have bu : (U == 0) = false := by rw [beq_eq_false_iff_ne]; exact hU
    have Hab := Lib.hid hab
    clear hab
    have HU := Lib.hid hU
    clear hU
    go_enter Try.func11, Try.ntmps11
    go_wp2_with fail
    refine (c1).calls H0.out ?_
    intro w1 h1
    have H1 := Lib.hid h1
    clear h1
    go_wp2_with fail
    refine (c2).calls H1.out ?_
    intro w2 h2
    have H2 := Lib.hid h2
    clear h2
    go_wp2_with fail
    refine (c3).calls H2.out ?_
    intro w3 h3
    have H3 := Lib.hid h3
    clear h3
    go_wp2_with fail
    refine (c3).calls H3.out ?_
    intro w4 h4
    have H4 := Lib.hid h4
    clear h4
    go_wp2_with fail
    refine (c4).calls H4.out ?_
    intro w5 h5
    have H5 := Lib.hid h5
    clear h5
    go_wp2_with fail
    refine (c5).calls H5.out ?_
    intro w6 h6
    have H6 := Lib.hid h6
    clear h6
    go_wp2_with fail
    refine (c6).calls H6.out ?_
    intro w7 h7
    have H7 := Lib.hid h7
    clear h7
    go_wp2_with fail
    have H8 := H7
    refine (c7).calls H8.out ?_
    intro w9 h9
    have H9 := Lib.hid h9
    clear h9
    rcases hk with ⟨hbc, hk⟩ | hbc
    · subst hk
      have bl : ((b.size : Int) != (c.size : Int)) = false := by rw [hbc]; simp
      have Hbc := Lib.hid hbc
      clear hbc
      go_wp2_with fail
      refine (Eql.awake_mak).calls H9.out ?_
      intro w10 h10
      have H10 := Lib.hid h10
      clear h10
      go_wp2_with fail
      go_ret
      exact ⟨rfl, H10.out⟩
    · have bl : ((b.size : Int) != (c.size : Int)) = true := by rw [bne_iff_ne]; omega
      clear hbc
      go_wp2_with fail
      refine (Eql.awake_mak).calls H9.out ?_
      intro w10 h10
      have H10 := Lib.hid h10
      clear h10
      go_wp2_with fail
      go_ret
      exact ⟨rfl, H10.out⟩

theorem walk (a0 a1 a2 : ByteArray) (w0 : a0.size ≤ maxLen) (w1 : a1.size ≤ maxLen) (w2 : a2.size ≤ maxLen) (w : World) :
    Calls Try.prog 11 #[.string a0, .string a1, .string a2] w fun e w' => e = .returned (.bool true) ∧ Below w.heap.size w w' := by
  unfold maxLen at w0 w1 w2
  by_cases hs : a0.size ≤ 500 ∧ a1.size ≤ 500 ∧ a2.size ≤ 500
  · obtain ⟨h0, h1, h2⟩ := hs
    have hmx : max a1.size a0.size = max a0.size a1.size := Nat.max_comm _ _
    refine core a0 a1 a2 h0 h1 h2 _ _ (max a0.size a1.size : Nat) (max a0.size a2.size : Nat) _ _ ?_ ?_ (Eql.scan_any a0 a1 (by omega) (by omega) _ rfl _ rfl) (Eql.scan_any a1 a0 (by omega) (by omega) _ hmx.symm _ (by rw [Eql.unl_swap]))
      (Eql.unlike_any a0 a1 (by omega) (by omega) _ rfl) (Eql.unlike_any a1 a0 (by omega) (by omega) _ (by rw [Eql.unl_swap, hmx])) (Eql.first_any a0 a1 (by omega) (by omega) _ rfl) (Eql.first_any a1 a0 (by omega) (by omega) _ (by rw [Eql.fst_swap, hmx]))
      (Eql.scan_any a0 a2 (by omega) (by omega) _ rfl _ rfl) w
    · by_cases h : a0 = a1
      · have hz : Eql.unl a0.data.toList a1.data.toList (max a0.size a1.size) = 0 := by
          subst h
          exact Eql.unl_self _ _ (by rw [Nat.max_self]; exact Nat.le_refl _)
        exact Or.inl ⟨decide_eq_true hz, h, by rw [hz]; rfl⟩
      · have hz : Eql.unl a0.data.toList a1.data.toList (max a0.size a1.size) ≠ 0 := fun h2 => h (ba_ext (Eql.unl_eq _ _ h2))
        exact Or.inr ⟨decide_eq_false hz, h, by omega⟩
    · by_cases h : a1.size = a2.size
      · exact Or.inl ⟨h, by rw [h]⟩
      · exact Or.inr h
  · by_cases h0 : a0.size ≤ 500
    · by_cases h1 : a1.size ≤ 500
      · have h2 : ¬ a2.size ≤ 500 := fun h => hs ⟨h0, h1, h⟩
        clear hs
        have H0 := Lib.hid (Since.refl w)
        go_enter Try.func11, Try.ntmps11
        go_wp2_with fail
        all_goals
          refine (Eql.awake_mak).calls H0.out ?_
          intro w3 h3
          have H3 := Lib.hid h3
          clear h3
          go_wp2_with fail
          go_ret
          exact ⟨rfl, H3.out⟩
      · clear hs
        have H0 := Lib.hid (Since.refl w)
        go_enter Try.func11, Try.ntmps11
        go_wp2_with fail
        all_goals
          refine (Eql.awake_mak).calls H0.out ?_
          intro w3 h3
          have H3 := Lib.hid h3
          clear h3
          go_wp2_with fail
          go_ret
          exact ⟨rfl, H3.out⟩
    · clear hs
      have H0 := Lib.hid (Since.refl w)
      go_enter Try.func11, Try.ntmps11
      go_wp2_with fail
      all_goals
        refine (Eql.awake_mak).calls H0.out ?_
        intro w3 h3
        have H3 := Lib.hid h3
        clear h3
        go_wp2_with fail
        go_ret
        exact ⟨rfl, H3.out⟩

theorem own : ownKnob Try.prog.godebug = none := by kernel_rfl

set_option maxRecDepth 100000 in
theorem lifted (os : Os) (started : os.Started) (H : Type) (enc : TypeId × Value → H) :
    ReturnsInHanded {} Try.checked os 11 .any (Rows.equalTurnsSpec.pre6 enc Try.prog Try.f11 Rows.equalTurnsRow.domain false) (Rows.equalTurnsSpec.post enc Try.prog Try.f11 false true false false) := by
  refine returnsInHanded_of_change (C := Try.checked) own started (by kernel_rfl) Try.func11
    (ChangeSpec.witness6 (enc := enc) (C := Try.checked) false ⟨#[], #[.string ⟨#[]⟩, .string ⟨#[]⟩, .string ⟨#[]⟩], []⟩ 8 (by kernel_rfl) (by kernel_rfl) (by kernel_rfl) (by kernel_rfl)) ?_
  intro W base args ds gs before hval0 hW hcnd _
  have hval : ∀ (j : Nat) t v, Try.f11.params[j]? = some t → args[j]? = some v → Value.okWide Try.prog W .any base t v := hval0
  have hW' := hW
  obtain ⟨p, q, hA0, hV, rfl, hfz, hnd⟩ := hW
  have hA : DataW.TrodAll enc Try.prog W 0 (fun _ => true) true Try.f11.params.toList args.toList ds p := hA0
  rw [Try.params11] at hA hval
  obtain ⟨v0, vs0, d0, ds0, p0, q0, hargs, rfl, rfl, h0, r0⟩ := trodAll_cons hA
  obtain ⟨v1, vs1, d1, ds1, p1, q1, rfl, rfl, rfl, h1, r1⟩ := trodAll_cons r0
  obtain ⟨v2, vs2, d2, ds2, p2, q2, rfl, rfl, rfl, h2, r2⟩ := trodAll_cons r1
  obtain ⟨rfl, rfl, rfl⟩ := trodAll_nil r2
  obtain rfl : args = #[v0, v1, v2] := by cases args; simp_all
  obtain ⟨rfl, rfl⟩ := trodVars_none hV
  obtain ⟨a0, rfl, rfl, rfl, w0⟩ := Go.ChangeMaps.open_string Try.underlying9 (hval 0 9 v0 rfl rfl) h0
  obtain ⟨a1, rfl, rfl, rfl, w1⟩ := Go.ChangeMaps.open_string Try.underlying9 (hval 1 9 v1 rfl rfl) h1
  obtain ⟨a2, rfl, rfl, rfl, w2⟩ := Go.ChangeMaps.open_string Try.underlying9 (hval 2 9 v2 rfl rfl) h2
  clear hA0 hval0
  simp only [List.append_nil] at hW'
  refine (walk a0 a1 a2 w0 w1 w2 W).mono fun e W' ⟨he, hg⟩ => ?_
  subst he
  exact ⟨_, rfl, _, _, _, _, _, [], hW', (trodAll_cons_mk (shut_bool Try.underlying4 _) trodAll_mk0), (trodAll_cons_mk (Go.ChangeMaps.shut_string Try.underlying9 w0) (trodAll_cons_mk (Go.ChangeMaps.shut_string Try.underlying9 w1) (trodAll_cons_mk (Go.ChangeMaps.shut_string Try.underlying9 w2) trodAll_mk0))), rfl, hg.frame _, fun h => by cases h⟩

theorem over : Rows.equalTurnsRow.holds Try.pinned (OpenSpec.ofChange Rows.equalTurnsSpec) :=
  OpenClaim.holds_of_wide 11 Try.f11 rfl rfl rfl rfl rfl rfl rfl ⟨rfl, rfl, rfl, rfl, rfl⟩ rfl rfl rfl rfl rfl (by kernel_rfl) Try.func11 (by kernel_rfl)
    (of_decide_eq_true (by kernel_rfl)) (by unfold Func.isWrapper; first | (rw [if_pos (by decide +kernel)]; kernel_rfl) | (rw [if_neg (by decide +kernel)]; exact ⟨rfl, rfl⟩))
    (fun os started H enc _ => lifted os started H enc)

theorem proved : Rows.EqualTurnsSaid :=
  over

end Go.Proofs.Ytldipjlepofdgaa.equalTurns
