/- The law AesBack: what is encrypted, decrypted, is what it was, and the other way round; unlike blocks stay unlike; no conditions. -/
import Derived.Test.YtijpmfnomdngpaaRows
import Derived.WalkKit
import Derived.ProofKit
import Derived.OpenShut
import Derived.Lib.Hide
import Derived.Test.YtijpmfnomdngpaaPk28
namespace Go.Proofs.Ytijpmfnomdngpaa.aesBack
open Go.ChangeShapes Go.WideShapes Go.ChangeAt Go.RowKit
open Aes

set_option maxRecDepth 100000 in
set_option maxHeartbeats 4000000 in
theorem core_no (key a b : ByteArray) (hk : (key.size : Int) ≤ 100) (ha : (a.size : Int) ≤ 100) (hb : (b.size : Int) ≤ 100) (e : Int) (he : (e != 0) = true)
    (c1 : Mak 14 #[.string key, .string a] (.tuple #[.string ⟨#[]⟩, .int .i64 e])) (c2 : Mak 16 #[.string key, .string a] (.tuple #[.string ⟨#[]⟩, .int .i64 e])) (w : World) :
    Calls Try.prog 5 #[.string key, .string a, .string b] w fun x w' => x = .returned (.bool true) ∧ Since w w' := by
  have H0 := Lib.hid (Since.refl w)
  have he2 : (e == 0) = false := by rw [beq_eq_false_iff_ne]; exact bne_iff_ne.1 he
  go_enter Try.func5, Try.ntmps5
  go_wp2_with fail
  refine c1.calls H0.out ?_
  intro w1 h1
  have H1 := Lib.hid h1
  clear h1
  go_wp2_with fail
  refine c2.calls H1.out ?_
  intro w2 h2
  have H2 := Lib.hid h2
  clear h2
  go_wp2_with fail
  refine awake_mak.calls H2.out ?_
  intro w3 h3
  have H3 := Lib.hid h3
  clear h3
  go_wp2_with fail
  go_ret
  exact ⟨rfl, H3.out⟩
set_option maxRecDepth 100000 in
set_option maxHeartbeats 4000000 in
theorem core (key a b : ByteArray) (hk : (key.size : Int) ≤ 100) (ha : (a.size : Int) ≤ 100) (hb : (b.size : Int) ≤ 100) (X Y W : ByteArray) (i : Int) (q : Bool) (hi : (i != 0) = true ∨ (i != 0) = false ∧ (W.toList == X.toList) = q) (hq : (a.toList == b.toList) = q)
    (c1 : Mak 14 #[.string key, .string a] (.tuple #[.string X, .int .i64 0])) (c2 : Mak 16 #[.string key, .string a] (.tuple #[.string Y, .int .i64 0]))
    (c3 : Mak 16 #[.string key, .string X] (.tuple #[.string a, .int .i64 0])) (c4 : Mak 14 #[.string key, .string Y] (.tuple #[.string a, .int .i64 0]))
    (c5 : Mak 14 #[.string key, .string b] (.tuple #[.string W, .int .i64 i])) (w : World) :
    Calls Try.prog 5 #[.string key, .string a, .string b] w fun x w' => x = .returned (.bool true) ∧ Since w w' := by
  have H0 := Lib.hid (Since.refl w)
  have t1 : decide ((100 : Int) < (key.size : Int)) = false := decide_eq_false (by omega)
  have t2 : decide ((100 : Int) < (a.size : Int)) = false := decide_eq_false (by omega)
  have t3 : decide ((100 : Int) < (b.size : Int)) = false := decide_eq_false (by omega)
  rcases q with _ | _ <;> rcases hi with hi | ⟨hi, hW⟩
  all_goals
    go_enter Try.func5, Try.ntmps5
    go_wp2_with fail
    refine c1.calls H0.out ?_
    intro w1 h1
    have H1 := Lib.hid h1
    clear h1
    go_wp2_with fail
    refine c2.calls H1.out ?_
    intro w2 h2
    have H2 := Lib.hid h2
    clear h2
    go_wp2_with fail
    refine c3.calls H2.out ?_
    intro w3 h3
    have H3 := Lib.hid h3
    clear h3
    go_wp2_with fail
    refine c4.calls H3.out ?_
    intro w4 h4
    have H4 := Lib.hid h4
    clear h4
    go_wp2_with fail
    refine c5.calls H4.out ?_
    intro w5 h5
    have H5 := Lib.hid h5
    clear h5
    go_wp2_with fail
    refine awake_mak.calls H5.out ?_
    intro w6 h6
    have H6 := Lib.hid h6
    clear h6
    go_wp2_with fail
    go_ret
    exact ⟨rfl, H6.out⟩
theorem walk (a0 a1 a2 : ByteArray) (w0 : a0.size ≤ maxLen) (w1 : a1.size ≤ maxLen) (w2 : a2.size ≤ maxLen) (w : World) :
    Calls Try.prog 5 #[.string a0, .string a1, .string a2] w fun e w' => e = .returned (.bool true) ∧ Below w.heap.size w w' := by
  unfold maxLen at w0 w1 w2
  by_cases hl : a0.size ≤ 100 ∧ a1.size ≤ 100 ∧ a2.size ≤ 100
  · obtain ⟨l0, l1, l2⟩ := hl
    by_cases hk : keyOk a0
    · by_cases ha : a1.size = 16
      · have fin := fun W i q hi hq c5 => core a0 a1 a2 (by omega) (by omega) (by omega) (encK a0 a1) (decK a0 a1) W i q hi hq (encrypt_yes a0 a1 hk ha _ rfl) (decrypt_yes a0 a1 hk ha _ rfl) (decrypt_yes a0 _ hk (encK_size _ _) _ (decK_encK a0 a1 ha).symm) (encrypt_yes a0 _ hk (decK_size _ _) _ (encK_decK a0 a1 ha).symm) c5 w
        by_cases hb : a2.size = 16
        · refine fin (encK a0 a2) 0 (decide (a1 = a2)) (Or.inr ⟨rfl, ?_⟩) ?_ (encrypt_yes a0 a2 hk hb _ rfl)
          · by_cases h : a1 = a2
            · rw [decide_eq_true h]; exact str_eq_t (by rw [h])
            · rw [decide_eq_false h]; exact str_ne_f fun h2 => h (encK_inj a0 a1 a2 ha hb h2.symm)
          · by_cases h : a1 = a2
            · rw [decide_eq_true h]; exact str_eq_t h
            · rw [decide_eq_false h]; exact str_ne_f h
        · exact fin _ 4 _ (Or.inl rfl) rfl (encrypt_nosize a0 a2 hk hb (by omega))
      · exact core_no a0 a1 a2 (by omega) (by omega) (by omega) 4 rfl (encrypt_nosize a0 a1 hk ha (by omega)) (decrypt_nosize a0 a1 hk ha (by omega)) w
    · exact core_no a0 a1 a2 (by omega) (by omega) (by omega) 2 rfl (encrypt_nokey a0 a1 (by omega) hk).mak (decrypt_nokey a0 a1 (by omega) hk).mak w
  · have H0 := Lib.hid (Since.refl w)
    by_cases h0 : a0.size ≤ 100
    · by_cases h1 : a1.size ≤ 100
      · have h2 : ¬ a2.size ≤ 100 := fun h => hl ⟨h0, h1, h⟩
        clear hl
        go_enter Try.func5, Try.ntmps5
        go_wp2_with fail
        all_goals
          refine awake_mak.calls H0.out ?_
          intro w1 h1
          have H1 := Lib.hid h1
          clear h1
          go_wp2_with fail
          go_ret
          exact ⟨rfl, H1.out⟩
      · clear hl
        go_enter Try.func5, Try.ntmps5
        go_wp2_with fail
        all_goals
          refine awake_mak.calls H0.out ?_
          intro w1 h1
          have H1 := Lib.hid h1
          clear h1
          go_wp2_with fail
          go_ret
          exact ⟨rfl, H1.out⟩
    · clear hl
      go_enter Try.func5, Try.ntmps5
      go_wp2_with fail
      all_goals
        refine awake_mak.calls H0.out ?_
        intro w1 h1
        have H1 := Lib.hid h1
        clear h1
        go_wp2_with fail
        go_ret
        exact ⟨rfl, H1.out⟩

theorem own : ownKnob Try.prog.godebug = none := by kernel_rfl

set_option maxRecDepth 100000 in
theorem lifted (os : Os) (started : os.Started) (H : Type) (enc : TypeId × Value → H) :
    ReturnsInHanded {} Try.checked os 5 .any (Rows.aesBackSpec.pre6 enc Try.prog Try.f5 Rows.aesBackRow.domain false) (Rows.aesBackSpec.post enc Try.prog Try.f5 false true false false) := by
  refine returnsInHanded_of_change (C := Try.checked) own started (by kernel_rfl) Try.func5
    (ChangeSpec.witness6 (enc := enc) (C := Try.checked) false ⟨#[], #[.string ⟨#[]⟩, .string ⟨#[]⟩, .string ⟨#[]⟩], []⟩ 8 (by kernel_rfl) (by kernel_rfl) (by kernel_rfl) (by kernel_rfl)) ?_
  intro W base args ds gs before hval0 hW hcnd _
  have hval : ∀ (j : Nat) t v, Try.f5.params[j]? = some t → args[j]? = some v → Value.okWide Try.prog W .any base t v := hval0
  have hW' := hW
  obtain ⟨p, q, hA0, hV, rfl, hfz, hnd⟩ := hW
  have hA : DataW.TrodAll enc Try.prog W 0 (fun _ => true) true Try.f5.params.toList args.toList ds p := hA0
  rw [Try.params5] at hA hval
  obtain ⟨v0, vs0, d0, ds0, p0, q0, hargs, rfl, rfl, h0, r0⟩ := trodAll_cons hA
  obtain ⟨v1, vs1, d1, ds1, p1, q1, rfl, rfl, rfl, h1, r1⟩ := trodAll_cons r0
  obtain ⟨v2, vs2, d2, ds2, p2, q2, rfl, rfl, rfl, h2, r2⟩ := trodAll_cons r1
  obtain ⟨rfl, rfl, rfl⟩ := trodAll_nil r2
  obtain rfl : args = #[v0, v1, v2] := by cases args; simp_all
  obtain ⟨rfl, rfl⟩ := trodVars_none hV
  obtain ⟨a0, rfl, rfl, rfl, w0⟩ := Go.ChangeMaps.open_string Try.underlying9 (hval 0 9 v0 rfl rfl) h0
  obtain ⟨a1, rfl, rfl, rfl, w1⟩ := Go.ChangeMaps.open_string Try.underlying9 (hval 1 9 v1 rfl rfl) h1
  obtain ⟨a2, rfl, rfl, rfl, w2⟩ := Go.ChangeMaps.open_string Try.underlying9 (hval 2 9 v2 rfl rfl) h2
  clear hA0 hval0
  simp only [List.append_nil] at hW'
  refine (walk a0 a1 a2 w0 w1 w2 W).mono fun e W' ⟨he, hg⟩ => ?_
  subst he
  exact ⟨_, rfl, _, _, _, _, _, [], hW', (trodAll_cons_mk (shut_bool Try.underlying4 _) trodAll_mk0), (trodAll_cons_mk (Go.ChangeMaps.shut_string Try.underlying9 w0) (trodAll_cons_mk (Go.ChangeMaps.shut_string Try.underlying9 w1) (trodAll_cons_mk (Go.ChangeMaps.shut_string Try.underlying9 w2) trodAll_mk0))), rfl, hg.frame _, fun h => by cases h⟩

theorem over : Rows.aesBackRow.holds Try.pinned (OpenSpec.ofChange Rows.aesBackSpec) :=
  OpenClaim.holds_of_wide 5 Try.f5 rfl rfl rfl rfl rfl rfl rfl ⟨rfl, rfl, rfl, rfl, rfl⟩ rfl rfl rfl rfl rfl (by kernel_rfl) Try.func5 (by kernel_rfl)
    (of_decide_eq_true (by kernel_rfl)) (by unfold Func.isWrapper; first | (rw [if_pos (by decide +kernel)]; kernel_rfl) | (rw [if_neg (by decide +kernel)]; exact ⟨rfl, rfl⟩))
    (fun os started H enc _ => lifted os started H enc)

theorem proved : Rows.AesBackSaid :=
  over

end Go.Proofs.Ytijpmfnomdngpaa.aesBack
