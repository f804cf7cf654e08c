/- The law CbcTells: any chain, there and back, or why there is none, is as the document says; no conditions. -/
import Derived.Test.YtijpmfnomdngpaaRows
import Derived.WalkKit
import Derived.ProofKit
import Derived.OpenShut
import Derived.Lib.Hide
import Derived.Test.YtijpmfnomdngpaaPk28
namespace Go.Proofs.Ytijpmfnomdngpaa.cbcTells
open Go.ChangeShapes Go.WideShapes Go.ChangeAt Go.RowKit
open Aes Cbc

set_option maxRecDepth 100000 in
set_option maxHeartbeats 4000000 in
theorem core (key iv s : ByteArray) (hk : (key.size : Int) ≤ 100) (hi : (iv.size : Int) ≤ 100) (hs : (s.size : Int) ≤ 128) (A C V : ByteArray) (e g : Int)
    (c1 : Mak 26 #[.string key, .string iv, .string s] (.tuple #[.string A, .int .i64 e])) (c2 : Mak 27 #[.string key, .string iv, .string s] (.tuple #[.string A, .int .i64 e]))
    (c3 : Mak 28 #[.string key, .string iv, .string s] (.tuple #[.string C, .int .i64 g])) (c4 : Mak 29 #[.string key, .string iv, .string s] (.tuple #[.string C, .int .i64 g]))
    (c5 : Ret 30 #[.string iv, .string s] (.string V)) (c6 : Ret 31 #[.string iv, .string s] (.string V)) (w : World) :
    Calls Try.prog 6 #[.string key, .string iv, .string s] w fun x w' => x = .returned (.bool true) ∧ Since w w' := by
  have H0 := Lib.hid (Since.refl w)
  have t1 : decide ((100 : Int) < (key.size : Int)) = false := decide_eq_false (by omega)
  have t2 : decide ((100 : Int) < (iv.size : Int)) = false := decide_eq_false (by omega)
  have t3 : decide ((128 : Int) < (s.size : Int)) = false := decide_eq_false (by omega)
  go_enter Try.func6, Try.ntmps6
  go_wp2_with fail
  refine c1.calls H0.out ?_
  intro w1 h1
  have H1 := Lib.hid h1
  clear h1
  go_wp2_with fail
  refine c2.calls H1.out ?_
  intro w2 h2
  have H2 := Lib.hid h2
  clear h2
  go_wp2_with fail
  refine c3.calls H2.out ?_
  intro w3 h3
  have H3 := Lib.hid h3
  clear h3
  go_wp2_with fail
  refine c4.calls H3.out ?_
  intro w4 h4
  have H4 := Lib.hid h4
  clear h4
  go_wp2_with fail
  refine (c5).calls ?_
  go_wp2_with fail
  refine (c6).calls ?_
  go_wp2_with fail
  refine awake_mak.calls H4.out ?_
  intro w5 h5
  have H5 := Lib.hid h5
  clear h5
  go_wp2_with fail
  go_ret
  exact ⟨rfl, H5.out⟩
theorem walk (a0 a1 a2 : ByteArray) (w0 : a0.size ≤ maxLen) (w1 : a1.size ≤ maxLen) (w2 : a2.size ≤ maxLen) (w : World) :
    Calls Try.prog 6 #[.string a0, .string a1, .string a2] w fun e w' => e = .returned (.bool true) ∧ Below w.heap.size w w' := by
  unfold maxLen at w0 w1 w2
  by_cases hl : a0.size ≤ 100 ∧ a1.size ≤ 100 ∧ a2.size ≤ 128
  · obtain ⟨l0, l1, l2⟩ := hl
    obtain ⟨V, q5, q6⟩ : ∃ V, Ret 30 #[.string a1, .string a2] (.string V) ∧ Ret 31 #[.string a1, .string a2] (.string V) := by
      by_cases h : 16 ≤ a2.size
      · exact ⟨_, Cbc.last_yes a1 a2 h (by omega) _ rfl, RefCbc.last_yes a1 a2 h (by omega) _ rfl⟩
      · exact ⟨_, Cbc.last_no a1 a2 (by omega), RefCbc.last_no a1 a2 (by omega)⟩
    by_cases hk : keyOk a0
    · by_cases hi : a1.size = 16
      · by_cases hs : a2.size % 16 = 0
        · exact core a0 a1 a2 (by omega) (by omega) (by omega) _ _ V 0 0 (Cbc.enc_yes a0 a1 a2 hk hi hs (by omega) _ rfl) (RefCbc.enc_yes a0 a1 a2 hk hi hs (by omega) _ rfl) (Cbc.dec_yes a0 a1 a2 hk hi hs (by omega) _ rfl) (RefCbc.dec_yes a0 a1 a2 hk hi hs (by omega) _ rfl) q5 q6 w
        · have b := RefCbc.bad_key a0 a1 a2 hk 4 (by omega) (by omega)
          exact core a0 a1 a2 (by omega) (by omega) (by omega) _ _ V 4 4 (Cbc.enc_nosize a0 a1 a2 hk hi hs) (RefCbc.enc_bad a0 a1 a2 4 rfl b).mak (Cbc.dec_nosize a0 a1 a2 hk hi hs) (RefCbc.dec_bad a0 a1 a2 4 rfl b).mak q5 q6 w
      · have b := RefCbc.bad_key a0 a1 a2 hk 1 (by omega) (by omega)
        exact core a0 a1 a2 (by omega) (by omega) (by omega) _ _ V 1 1 (Cbc.enc_noiv a0 a1 a2 hk hi) (RefCbc.enc_bad a0 a1 a2 1 rfl b).mak (Cbc.dec_noiv a0 a1 a2 hk hi) (RefCbc.dec_bad a0 a1 a2 1 rfl b).mak q5 q6 w
    · have b := RefCbc.bad_nokey a0 a1 a2 (by omega) hk
      exact core a0 a1 a2 (by omega) (by omega) (by omega) _ _ V 2 2 (Cbc.enc_nokey a0 a1 a2 (by omega) hk) (RefCbc.enc_bad a0 a1 a2 2 rfl b).mak (Cbc.dec_nokey a0 a1 a2 (by omega) hk) (RefCbc.dec_bad a0 a1 a2 2 rfl b).mak q5 q6 w
  · have H0 := Lib.hid (Since.refl w)
    by_cases h0 : a0.size ≤ 100
    · by_cases h1 : a1.size ≤ 100
      · have h2 : ¬ a2.size ≤ 128 := fun h => hl ⟨h0, h1, h⟩
        clear hl
        go_enter Try.func6, Try.ntmps6
        go_wp2_with fail
        all_goals
          refine awake_mak.calls H0.out ?_
          intro w1 h1
          have H1 := Lib.hid h1
          clear h1
          go_wp2_with fail
          go_ret
          exact ⟨rfl, H1.out⟩
      · clear hl
        go_enter Try.func6, Try.ntmps6
        go_wp2_with fail
        all_goals
          refine awake_mak.calls H0.out ?_
          intro w1 h1
          have H1 := Lib.hid h1
          clear h1
          go_wp2_with fail
          go_ret
          exact ⟨rfl, H1.out⟩
    · clear hl
      go_enter Try.func6, Try.ntmps6
      go_wp2_with fail
      all_goals
        refine awake_mak.calls H0.out ?_
        intro w1 h1
        have H1 := Lib.hid h1
        clear h1
        go_wp2_with fail
        go_ret
        exact ⟨rfl, H1.out⟩

theorem own : ownKnob Try.prog.godebug = none := by kernel_rfl

set_option maxRecDepth 100000 in
theorem lifted (os : Os) (started : os.Started) (H : Type) (enc : TypeId × Value → H) :
    ReturnsInHanded {} Try.checked os 6 .any (Rows.cbcTellsSpec.pre6 enc Try.prog Try.f6 Rows.cbcTellsRow.domain false) (Rows.cbcTellsSpec.post enc Try.prog Try.f6 false true false false) := by
  refine returnsInHanded_of_change (C := Try.checked) own started (by kernel_rfl) Try.func6
    (ChangeSpec.witness6 (enc := enc) (C := Try.checked) false ⟨#[], #[.string ⟨#[]⟩, .string ⟨#[]⟩, .string ⟨#[]⟩], []⟩ 8 (by kernel_rfl) (by kernel_rfl) (by kernel_rfl) (by kernel_rfl)) ?_
  intro W base args ds gs before hval0 hW hcnd _
  have hval : ∀ (j : Nat) t v, Try.f6.params[j]? = some t → args[j]? = some v → Value.okWide Try.prog W .any base t v := hval0
  have hW' := hW
  obtain ⟨p, q, hA0, hV, rfl, hfz, hnd⟩ := hW
  have hA : DataW.TrodAll enc Try.prog W 0 (fun _ => true) true Try.f6.params.toList args.toList ds p := hA0
  rw [Try.params6] at hA hval
  obtain ⟨v0, vs0, d0, ds0, p0, q0, hargs, rfl, rfl, h0, r0⟩ := trodAll_cons hA
  obtain ⟨v1, vs1, d1, ds1, p1, q1, rfl, rfl, rfl, h1, r1⟩ := trodAll_cons r0
  obtain ⟨v2, vs2, d2, ds2, p2, q2, rfl, rfl, rfl, h2, r2⟩ := trodAll_cons r1
  obtain ⟨rfl, rfl, rfl⟩ := trodAll_nil r2
  obtain rfl : args = #[v0, v1, v2] := by cases args; simp_all
  obtain ⟨rfl, rfl⟩ := trodVars_none hV
  obtain ⟨a0, rfl, rfl, rfl, w0⟩ := Go.ChangeMaps.open_string Try.underlying9 (hval 0 9 v0 rfl rfl) h0
  obtain ⟨a1, rfl, rfl, rfl, w1⟩ := Go.ChangeMaps.open_string Try.underlying9 (hval 1 9 v1 rfl rfl) h1
  obtain ⟨a2, rfl, rfl, rfl, w2⟩ := Go.ChangeMaps.open_string Try.underlying9 (hval 2 9 v2 rfl rfl) h2
  clear hA0 hval0
  simp only [List.append_nil] at hW'
  refine (walk a0 a1 a2 w0 w1 w2 W).mono fun e W' ⟨he, hg⟩ => ?_
  subst he
  exact ⟨_, rfl, _, _, _, _, _, [], hW', (trodAll_cons_mk (shut_bool Try.underlying4 _) trodAll_mk0), (trodAll_cons_mk (Go.ChangeMaps.shut_string Try.underlying9 w0) (trodAll_cons_mk (Go.ChangeMaps.shut_string Try.underlying9 w1) (trodAll_cons_mk (Go.ChangeMaps.shut_string Try.underlying9 w2) trodAll_mk0))), rfl, hg.frame _, fun h => by cases h⟩

theorem over : Rows.cbcTellsRow.holds Try.pinned (OpenSpec.ofChange Rows.cbcTellsSpec) :=
  OpenClaim.holds_of_wide 6 Try.f6 rfl rfl rfl rfl rfl rfl rfl ⟨rfl, rfl, rfl, rfl, rfl⟩ rfl rfl rfl rfl rfl (by kernel_rfl) Try.func6 (by kernel_rfl)
    (of_decide_eq_true (by kernel_rfl)) (by unfold Func.isWrapper; first | (rw [if_pos (by decide +kernel)]; kernel_rfl) | (rw [if_neg (by decide +kernel)]; exact ⟨rfl, rfl⟩))
    (fun os started H enc _ => lifted os started H enc)

theorem proved : Rows.CbcTellsSaid :=
  over

end Go.Proofs.Ytijpmfnomdngpaa.cbcTells
