/- The law WrapBack: what is wrapped, unwrapped, is what it was, with its value; no conditions. -/
import Derived.Test.YtefoonegobcoaaaRows
import Derived.WalkKit
import Derived.ProofKit
import Derived.OpenShut
import Derived.Lib.Hide
import Derived.Test.YtefoonegobcoaaaPk35
namespace Go.Proofs.Ytefoonegobcoaaa.wrapBack
open Go.ChangeShapes Go.WideShapes Go.ChangeAt Go.RowKit
open Aes Wrap

set_option maxRecDepth 100000 in
set_option maxHeartbeats 4000000 in
theorem core_no (key iv s : ByteArray) (hk : (key.size : Int) ≤ 100) (hi : (iv.size : Int) ≤ 100) (hs : (s.size : Int) ≤ 96) (A : ByteArray) (e g : Int) (he : (e == 0) = false) (hg : (g != 0) = true)
    (c1 : Mak 10 #[.string key, .string iv, .string s] (.tuple #[.string A, .int .i64 e])) (c2 : Mak 14 #[.string key, .string s] (.tuple #[.string ⟨#[]⟩, .int .i64 g])) (w : World) :
    Calls Try.prog 4 #[.string key, .string iv, .string s] w fun x w' => x = .returned (.bool true) ∧ Since w w' := by
  have H0 := Lib.hid (Since.refl w)
  have t1 : decide ((100 : Int) < (key.size : Int)) = false := decide_eq_false (by omega)
  have t2 : decide ((100 : Int) < (iv.size : Int)) = false := decide_eq_false (by omega)
  have t3 : decide ((96 : Int) < (s.size : Int)) = false := decide_eq_false (by omega)
  go_enter Try.func4, Try.ntmps4
  go_wp2_with fail
  refine c1.calls H0.out ?_
  intro w1 h1
  have H1 := Lib.hid h1
  clear h1
  go_wp2_with fail
  refine c2.calls H1.out ?_
  intro w2 h2
  have H2 := Lib.hid h2
  clear h2
  go_wp2_with fail
  refine Wrap.awake_mak.calls H2.out ?_
  intro w3 h3
  have H3 := Lib.hid h3
  clear h3
  go_wp2_with fail
  go_ret
  exact ⟨rfl, H3.out⟩
set_option maxRecDepth 100000 in
set_option maxHeartbeats 4000000 in
theorem core_half (key iv s : ByteArray) (hk : (key.size : Int) ≤ 100) (hi : (iv.size : Int) ≤ 100) (hs : (s.size : Int) ≤ 96) (A D : ByteArray) (e : Int) (he : (e == 0) = false)
    (c1 : Mak 10 #[.string key, .string iv, .string s] (.tuple #[.string A, .int .i64 e])) (c2 : Mak 14 #[.string key, .string s] (.tuple #[.string D, .int .i64 0]))
    (c3 : Mak 16 #[.string key, .string D] (.tuple #[.string s, .int .i64 0])) (w : World) :
    Calls Try.prog 4 #[.string key, .string iv, .string s] w fun x w' => x = .returned (.bool true) ∧ Since w w' := by
  have H0 := Lib.hid (Since.refl w)
  have t1 : decide ((100 : Int) < (key.size : Int)) = false := decide_eq_false (by omega)
  have t2 : decide ((100 : Int) < (iv.size : Int)) = false := decide_eq_false (by omega)
  have t3 : decide ((96 : Int) < (s.size : Int)) = false := decide_eq_false (by omega)
  go_enter Try.func4, Try.ntmps4
  go_wp2_with fail
  refine c1.calls H0.out ?_
  intro w1 h1
  have H1 := Lib.hid h1
  clear h1
  go_wp2_with fail
  refine c2.calls H1.out ?_
  intro w2 h2
  have H2 := Lib.hid h2
  clear h2
  go_wp2_with fail
  refine c3.calls H2.out ?_
  intro w3 h3
  have H3 := Lib.hid h3
  clear h3
  go_wp2_with fail
  refine Wrap.awake_mak.calls H3.out ?_
  intro w4 h4
  have H4 := Lib.hid h4
  clear h4
  go_wp2_with fail
  go_ret
  exact ⟨rfl, H4.out⟩
set_option maxRecDepth 100000 in
set_option maxHeartbeats 4000000 in
theorem core_yes (key iv s : ByteArray) (hk : (key.size : Int) ≤ 100) (hi : (iv.size : Int) ≤ 100) (hs : (s.size : Int) ≤ 96) (C D : ByteArray) (hC : (C.size : Int) = (s.size : Int) + 8)
    (c1 : Mak 10 #[.string key, .string iv, .string s] (.tuple #[.string C, .int .i64 0])) (c2 : Mak 12 #[.string key, .string C] (.tuple #[.string iv, .string s, .int .i64 0]))
    (c3 : Mak 14 #[.string key, .string s] (.tuple #[.string D, .int .i64 0]))
    (c4 : Mak 16 #[.string key, .string D] (.tuple #[.string s, .int .i64 0])) (w : World) :
    Calls Try.prog 4 #[.string key, .string iv, .string s] w fun x w' => x = .returned (.bool true) ∧ Since w w' := by
  have H0 := Lib.hid (Since.refl w)
  have t1 : decide ((100 : Int) < (key.size : Int)) = false := decide_eq_false (by omega)
  have t2 : decide ((100 : Int) < (iv.size : Int)) = false := decide_eq_false (by omega)
  have t3 : decide ((96 : Int) < (s.size : Int)) = false := decide_eq_false (by omega)
  have t4 : IntKind.i64.wrap ((s.size : Int) + 8) = (s.size : Int) + 8 := IntWalk.i64_in _ (by omega)
  go_enter Try.func4, Try.ntmps4
  go_wp2_with fail
  refine c1.calls H0.out ?_
  intro w1 h1
  have H1 := Lib.hid h1
  clear h1
  go_wp2_with fail
  refine c2.calls H1.out ?_
  intro w2 h2
  have H2 := Lib.hid h2
  clear h2
  go_wp2_with fail
  refine c3.calls H2.out ?_
  intro w3 h3
  have H3 := Lib.hid h3
  clear h3
  go_wp2_with fail
  refine c4.calls H3.out ?_
  intro w4 h4
  have H4 := Lib.hid h4
  clear h4
  go_wp2_with fail
  refine Wrap.awake_mak.calls H4.out ?_
  intro w5 h5
  have H5 := Lib.hid h5
  clear h5
  go_wp2_with fail
  go_ret
  exact ⟨rfl, H5.out⟩
theorem walk (a0 a1 a2 : ByteArray) (w0 : a0.size ≤ maxLen) (w1 : a1.size ≤ maxLen) (w2 : a2.size ≤ maxLen) (w : World) :
    Calls Try.prog 4 #[.string a0, .string a1, .string a2] w fun e w' => e = .returned (.bool true) ∧ Below w.heap.size w w' := by
  unfold maxLen at w0 w1 w2
  by_cases hl : a0.size ≤ 100 ∧ a1.size ≤ 100 ∧ a2.size ≤ 96
  · obtain ⟨l0, l1, l2⟩ := hl
    by_cases hk : keyOk a0
    · by_cases hs : fits (a2.size : Int)
      · have hz : ∀ iv, iv.size = 8 → fits (((rawK a0 iv a2).size : Int) - 8) := by
          intro iv hi
          rw [(rawK_parts a0 iv a2 hi hs).1]
          unfold fits at hs ⊢
          omega
        have hw := wrap_any a0 a2 _ 0 (raw_yes a0 val a2 hk rfl hs _ rfl)
        have hu := unwrap_yes a0 (rawK a0 val a2) a2 (unraw_yes a0 _ hk (hz val rfl) val a2 (by rw [unraw_raw a0 val a2 rfl hs]) (by rw [unraw_raw a0 val a2 rfl hs]; exact (bs_list a2).symm))
        by_cases hi : a1.size = 8
        · exact core_yes a0 a1 a2 (by omega) (by omega) (by omega) (rawK a0 a1 a2) (rawK a0 val a2) (by rw [(rawK_parts a0 a1 a2 hi hs).1]; omega) (raw_yes a0 a1 a2 hk hi hs _ rfl)
            (unraw_yes a0 _ hk (hz a1 hi) a1 a2 (by rw [unraw_raw a0 a1 a2 hi hs]) (by rw [unraw_raw a0 a1 a2 hi hs]; exact (bs_list a2).symm)) hw hu w
        · exact core_half a0 a1 a2 (by omega) (by omega) (by omega) _ _ 1 rfl (raw_noiv a0 a1 a2 hk hi) hw hu w
      · have hw := wrap_any a0 a2 _ 4 (raw_nosize a0 val a2 hk rfl hs)
        by_cases hi : a1.size = 8
        · exact core_no a0 a1 a2 (by omega) (by omega) (by omega) _ 4 4 rfl rfl (raw_nosize a0 a1 a2 hk hi hs) hw w
        · exact core_no a0 a1 a2 (by omega) (by omega) (by omega) _ 1 4 rfl rfl (raw_noiv a0 a1 a2 hk hi) hw w
    · exact core_no a0 a1 a2 (by omega) (by omega) (by omega) _ 2 2 rfl rfl (raw_nokey a0 a1 a2 (by omega) hk).mak (wrap_any a0 a2 _ 2 (raw_nokey a0 val a2 (by omega) hk).mak) w
  · have H0 := Lib.hid (Since.refl w)
    by_cases h0 : a0.size ≤ 100
    · by_cases h1 : a1.size ≤ 100
      · have h2 : ¬ a2.size ≤ 96 := fun h => hl ⟨h0, h1, h⟩
        clear hl
        go_enter Try.func4, Try.ntmps4
        go_wp2_with fail
        all_goals
          refine Wrap.awake_mak.calls H0.out ?_
          intro w1 h1
          have H1 := Lib.hid h1
          clear h1
          go_wp2_with fail
          go_ret
          exact ⟨rfl, H1.out⟩
      · clear hl
        go_enter Try.func4, Try.ntmps4
        go_wp2_with fail
        all_goals
          refine Wrap.awake_mak.calls H0.out ?_
          intro w1 h1
          have H1 := Lib.hid h1
          clear h1
          go_wp2_with fail
          go_ret
          exact ⟨rfl, H1.out⟩
    · clear hl
      go_enter Try.func4, Try.ntmps4
      go_wp2_with fail
      all_goals
        refine Wrap.awake_mak.calls H0.out ?_
        intro w1 h1
        have H1 := Lib.hid h1
        clear h1
        go_wp2_with fail
        go_ret
        exact ⟨rfl, H1.out⟩

theorem own : ownKnob Try.prog.godebug = none := by kernel_rfl

set_option maxRecDepth 100000 in
theorem lifted (os : Os) (started : os.Started) (H : Type) (enc : TypeId × Value → H) :
    ReturnsInHanded {} Try.checked os 4 .any (Rows.wrapBackSpec.pre6 enc Try.prog Try.f4 Rows.wrapBackRow.domain false) (Rows.wrapBackSpec.post enc Try.prog Try.f4 false true false false) := by
  refine returnsInHanded_of_change (C := Try.checked) own started (by kernel_rfl) Try.func4
    (ChangeSpec.witness6 (enc := enc) (C := Try.checked) false ⟨#[], #[.string ⟨#[]⟩, .string ⟨#[]⟩, .string ⟨#[]⟩], []⟩ 8 (by kernel_rfl) (by kernel_rfl) (by kernel_rfl) (by kernel_rfl)) ?_
  intro W base args ds gs before hval0 hW hcnd _
  have hval : ∀ (j : Nat) t v, Try.f4.params[j]? = some t → args[j]? = some v → Value.okWide Try.prog W .any base t v := hval0
  have hW' := hW
  obtain ⟨p, q, hA0, hV, rfl, hfz, hnd⟩ := hW
  have hA : DataW.TrodAll enc Try.prog W 0 (fun _ => true) true Try.f4.params.toList args.toList ds p := hA0
  rw [Try.params4] at hA hval
  obtain ⟨v0, vs0, d0, ds0, p0, q0, hargs, rfl, rfl, h0, r0⟩ := trodAll_cons hA
  obtain ⟨v1, vs1, d1, ds1, p1, q1, rfl, rfl, rfl, h1, r1⟩ := trodAll_cons r0
  obtain ⟨v2, vs2, d2, ds2, p2, q2, rfl, rfl, rfl, h2, r2⟩ := trodAll_cons r1
  obtain ⟨rfl, rfl, rfl⟩ := trodAll_nil r2
  obtain rfl : args = #[v0, v1, v2] := by cases args; simp_all
  obtain ⟨rfl, rfl⟩ := trodVars_none hV
  obtain ⟨a0, rfl, rfl, rfl, w0⟩ := Go.ChangeMaps.open_string Try.underlying9 (hval 0 9 v0 rfl rfl) h0
  obtain ⟨a1, rfl, rfl, rfl, w1⟩ := Go.ChangeMaps.open_string Try.underlying9 (hval 1 9 v1 rfl rfl) h1
  obtain ⟨a2, rfl, rfl, rfl, w2⟩ := Go.ChangeMaps.open_string Try.underlying9 (hval 2 9 v2 rfl rfl) h2
  clear hA0 hval0
  simp only [List.append_nil] at hW'
  refine (walk a0 a1 a2 w0 w1 w2 W).mono fun e W' ⟨he, hg⟩ => ?_
  subst he
  exact ⟨_, rfl, _, _, _, _, _, [], hW', (trodAll_cons_mk (shut_bool Try.underlying4 _) trodAll_mk0), (trodAll_cons_mk (Go.ChangeMaps.shut_string Try.underlying9 w0) (trodAll_cons_mk (Go.ChangeMaps.shut_string Try.underlying9 w1) (trodAll_cons_mk (Go.ChangeMaps.shut_string Try.underlying9 w2) trodAll_mk0))), rfl, hg.frame _, fun h => by cases h⟩

theorem over : Rows.wrapBackRow.holds Try.pinned (OpenSpec.ofChange Rows.wrapBackSpec) :=
  OpenClaim.holds_of_wide 4 Try.f4 rfl rfl rfl rfl rfl rfl rfl ⟨rfl, rfl, rfl, rfl, rfl⟩ rfl rfl rfl rfl rfl (by kernel_rfl) Try.func4 (by kernel_rfl)
    (of_decide_eq_true (by kernel_rfl)) (by unfold Func.isWrapper; first | (rw [if_pos (by decide +kernel)]; kernel_rfl) | (rw [if_neg (by decide +kernel)]; exact ⟨rfl, rfl⟩))
    (fun os started H enc _ => lifted os started H enc)

theorem proved : Rows.WrapBackSaid :=
  over

end Go.Proofs.Ytefoonegobcoaaa.wrapBack
