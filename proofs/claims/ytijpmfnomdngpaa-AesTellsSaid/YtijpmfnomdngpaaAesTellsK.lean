/- The law AesTells: any key makes of any block, or of what is none, what the document says; no conditions. -/
import Derived.Test.YtijpmfnomdngpaaRows
import Derived.WalkKit
import Derived.ProofKit
import Derived.OpenShut
import Derived.Lib.Hide
import Derived.Test.YtijpmfnomdngpaaPk28
namespace Go.Proofs.Ytijpmfnomdngpaa.aesTells
open Go.ChangeShapes Go.WideShapes Go.ChangeAt Go.RowKit
open Aes

set_option maxRecDepth 100000 in
set_option maxHeartbeats 4000000 in
theorem core (key b : ByteArray) (hk : (key.size : Int) ≤ 100) (hb : (b.size : Int) ≤ 100) (A C : ByteArray) (e g : Int)
    (c1 : Mak 14 #[.string key, .string b] (.tuple #[.string A, .int .i64 e])) (c2 : Mak 15 #[.string key, .string b] (.tuple #[.string A, .int .i64 e]))
    (c3 : Mak 16 #[.string key, .string b] (.tuple #[.string C, .int .i64 g])) (c4 : Mak 17 #[.string key, .string b] (.tuple #[.string C, .int .i64 g])) (w : World) :
    Calls Try.prog 3 #[.string key, .string b] w fun x w' => x = .returned (.bool true) ∧ Since w w' := by
  have H0 := Lib.hid (Since.refl w)
  go_enter Try.func3, Try.ntmps3
  go_wp2_with fail
  refine c1.calls H0.out ?_
  intro w1 h1
  have H1 := Lib.hid h1
  clear h1
  go_wp2_with fail
  refine c2.calls H1.out ?_
  intro w2 h2
  have H2 := Lib.hid h2
  clear h2
  go_wp2_with fail
  refine c3.calls H2.out ?_
  intro w3 h3
  have H3 := Lib.hid h3
  clear h3
  go_wp2_with fail
  refine c4.calls H3.out ?_
  intro w4 h4
  have H4 := Lib.hid h4
  clear h4
  go_wp2_with fail
  refine awake_mak.calls H4.out ?_
  intro w5 h5
  have H5 := Lib.hid h5
  clear h5
  go_wp2_with fail
  go_ret
  exact ⟨rfl, H5.out⟩
theorem walk (a0 a1 : ByteArray) (w0 : a0.size ≤ maxLen) (w1 : a1.size ≤ maxLen) (w : World) :
    Calls Try.prog 3 #[.string a0, .string a1] w fun e w' => e = .returned (.bool true) ∧ Below w.heap.size w w' := by
  unfold maxLen at w0 w1
  by_cases h1 : a0.size ≤ 100
  · by_cases h2 : a1.size ≤ 100
    · by_cases hk : keyOk a0
      · by_cases hb : a1.size = 16
        · exact core a0 a1 (by omega) (by omega) _ _ 0 0 (encrypt_yes a0 a1 hk hb _ rfl) (RefAes.enc_yes a0 a1 hk hb _ rfl) (decrypt_yes a0 a1 hk hb _ rfl) (RefAes.dec_yes a0 a1 hk hb _ rfl) w
        · exact core a0 a1 (by omega) (by omega) _ _ 4 4 (encrypt_nosize a0 a1 hk hb (by omega)) (RefAes.enc_nosize a0 a1 hk hb (by omega)) (decrypt_nosize a0 a1 hk hb (by omega)) (RefAes.dec_nosize a0 a1 hk hb (by omega)) w
      · exact core a0 a1 (by omega) (by omega) _ _ 2 2 (encrypt_nokey a0 a1 (by omega) hk).mak (RefAes.enc_nokey a0 a1 (by omega) hk).mak (decrypt_nokey a0 a1 (by omega) hk).mak (RefAes.dec_nokey a0 a1 (by omega) hk).mak w
    · have H0 := Lib.hid (Since.refl w)
      go_enter Try.func3, Try.ntmps3
      go_wp2_with fail
      all_goals
        refine awake_mak.calls H0.out ?_
        intro w1 h1
        have H1 := Lib.hid h1
        clear h1
        go_wp2_with fail
        go_ret
        exact ⟨rfl, H1.out⟩
  · have H0 := Lib.hid (Since.refl w)
    go_enter Try.func3, Try.ntmps3
    go_wp2_with fail
    all_goals
      refine awake_mak.calls H0.out ?_
      intro w1 h1
      have H1 := Lib.hid h1
      clear h1
      go_wp2_with fail
      go_ret
      exact ⟨rfl, H1.out⟩

theorem own : ownKnob Try.prog.godebug = none := by kernel_rfl

set_option maxRecDepth 100000 in
theorem lifted (os : Os) (started : os.Started) (H : Type) (enc : TypeId × Value → H) :
    ReturnsInHanded {} Try.checked os 3 .any (Rows.aesTellsSpec.pre6 enc Try.prog Try.f3 Rows.aesTellsRow.domain false) (Rows.aesTellsSpec.post enc Try.prog Try.f3 false true false false) := by
  refine returnsInHanded_of_change (C := Try.checked) own started (by kernel_rfl) Try.func3
    (ChangeSpec.witness6 (enc := enc) (C := Try.checked) false ⟨#[], #[.string ⟨#[]⟩, .string ⟨#[]⟩], []⟩ 8 (by kernel_rfl) (by kernel_rfl) (by kernel_rfl) (by kernel_rfl)) ?_
  intro W base args ds gs before hval0 hW hcnd _
  have hval : ∀ (j : Nat) t v, Try.f3.params[j]? = some t → args[j]? = some v → Value.okWide Try.prog W .any base t v := hval0
  have hW' := hW
  obtain ⟨p, q, hA0, hV, rfl, hfz, hnd⟩ := hW
  have hA : DataW.TrodAll enc Try.prog W 0 (fun _ => true) true Try.f3.params.toList args.toList ds p := hA0
  rw [Try.params3] at hA hval
  obtain ⟨v0, vs0, d0, ds0, p0, q0, hargs, rfl, rfl, h0, r0⟩ := trodAll_cons hA
  obtain ⟨v1, vs1, d1, ds1, p1, q1, rfl, rfl, rfl, h1, r1⟩ := trodAll_cons r0
  obtain ⟨rfl, rfl, rfl⟩ := trodAll_nil r1
  obtain rfl : args = #[v0, v1] := by cases args; simp_all
  obtain ⟨rfl, rfl⟩ := trodVars_none hV
  obtain ⟨a0, rfl, rfl, rfl, w0⟩ := Go.ChangeMaps.open_string Try.underlying9 (hval 0 9 v0 rfl rfl) h0
  obtain ⟨a1, rfl, rfl, rfl, w1⟩ := Go.ChangeMaps.open_string Try.underlying9 (hval 1 9 v1 rfl rfl) h1
  clear hA0 hval0
  simp only [List.append_nil] at hW'
  refine (walk a0 a1 w0 w1 W).mono fun e W' ⟨he, hg⟩ => ?_
  subst he
  exact ⟨_, rfl, _, _, _, _, _, [], hW', (trodAll_cons_mk (shut_bool Try.underlying4 _) trodAll_mk0), (trodAll_cons_mk (Go.ChangeMaps.shut_string Try.underlying9 w0) (trodAll_cons_mk (Go.ChangeMaps.shut_string Try.underlying9 w1) trodAll_mk0)), rfl, hg.frame _, fun h => by cases h⟩

theorem over : Rows.aesTellsRow.holds Try.pinned (OpenSpec.ofChange Rows.aesTellsSpec) :=
  OpenClaim.holds_of_wide 3 Try.f3 rfl rfl rfl rfl rfl rfl rfl ⟨rfl, rfl, rfl, rfl, rfl⟩ rfl rfl rfl rfl rfl (by kernel_rfl) Try.func3 (by kernel_rfl)
    (of_decide_eq_true (by kernel_rfl)) (by unfold Func.isWrapper; first | (rw [if_pos (by decide +kernel)]; kernel_rfl) | (rw [if_neg (by decide +kernel)]; exact ⟨rfl, rfl⟩))
    (fun os started H enc _ => lifted os started H enc)

theorem proved : Rows.AesTellsSaid :=
  over

end Go.Proofs.Ytijpmfnomdngpaa.aesTells
