/- The law SboxTells: for all bytes, turns and texts, Turn, Sub, Back, Subs, Backs and Table answer as the reference does; no conditions. -/
import Derived.Test.YtcdjpdncgaeinaaRows
import Derived.WalkKit
import Derived.ProofKit
import Derived.OpenShut
import Derived.Lib.Hide
import Derived.Test.YtcdjpdncgaeinaaSboxBy
import Derived.Test.YtcdjpdncgaeinaaRefSbox2
namespace Go.Proofs.Ytcdjpdncgaeinaa.sboxTells
open Go.ChangeShapes Go.WideShapes Go.ChangeAt Go.RowKit

set_option maxRecDepth 100000 in
set_option maxHeartbeats 4000000 in
theorem core (a n : Int) (ha : 0 ≤ a) (s : ByteArray) (hs : s.size ≤ 200) (t u v : Int) (X Y Z : ByteArray)
    (c1 : Mak 25 #[.int .u8 a, .int .i64 n] (.int .u8 t)) (c2 : Mak 26 #[.int .u8 a, .int .i64 n] (.int .u8 t))
    (c3 : Mak 27 #[.int .u8 a] (.int .u8 u)) (c4 : Mak 28 #[.int .u8 a] (.int .u8 u))
    (c5 : Mak 29 #[.int .u8 a] (.int .u8 v)) (c6 : Mak 30 #[.int .u8 a] (.int .u8 v))
    (c7 : Mak 31 #[.string s] (.string X)) (c8 : Mak 32 #[.string s] (.string X))
    (c9 : Mak 33 #[.string s] (.string Y)) (c10 : Mak 34 #[.string s] (.string Y))
    (c11 : Mak 35 #[] (.string Z)) (c12 : Mak 36 #[] (.string Z)) (w : World) :
    Calls Try.prog 6 #[.int .u8 a, .int .i64 n, .string s] w fun e w' => e = .returned (.bool true) ∧ Since w w' := by
  have H0 := Lib.hid (Since.refl w)
  have bt : (t == t) = true := by simp
  have bu : (u == u) = true := by simp
  have bv : (v == v) = true := by simp
  go_enter Try.func6, Try.ntmps6
  go_wp2_with fail
  refine (c1).calls H0.out ?_
  intro w1 h1
  have H1 := Lib.hid h1
  clear h1
  go_wp2_with fail
  refine (c2).calls H1.out ?_
  intro w2 h2
  have H2 := Lib.hid h2
  clear h2
  go_wp2_with fail
  refine (c3).calls H2.out ?_
  intro w3 h3
  have H3 := Lib.hid h3
  clear h3
  go_wp2_with fail
  refine (c4).calls H3.out ?_
  intro w4 h4
  have H4 := Lib.hid h4
  clear h4
  go_wp2_with fail
  refine (c5).calls H4.out ?_
  intro w5 h5
  have H5 := Lib.hid h5
  clear h5
  go_wp2_with fail
  refine (c6).calls H5.out ?_
  intro w6 h6
  have H6 := Lib.hid h6
  clear h6
  go_wp2_with fail
  refine (c7).calls H6.out ?_
  intro w7 h7
  have H7 := Lib.hid h7
  clear h7
  go_wp2_with fail
  refine (c8).calls H7.out ?_
  intro w8 h8
  have H8 := Lib.hid h8
  clear h8
  go_wp2_with fail
  refine (c9).calls H8.out ?_
  intro w9 h9
  have H9 := Lib.hid h9
  clear h9
  go_wp2_with fail
  refine (c10).calls H9.out ?_
  intro w10 h10
  have H10 := Lib.hid h10
  clear h10
  go_wp2_with fail
  refine (c11).calls H10.out ?_
  intro w11 h11
  have H11 := Lib.hid h11
  clear h11
  go_wp2_with fail
  refine (c12).calls H11.out ?_
  intro w12 h12
  have H12 := Lib.hid h12
  clear h12
  go_wp2_with fail
  refine (Sbox.awake_mak).calls H12.out ?_
  intro w13 h13
  have H13 := Lib.hid h13
  clear h13
  go_wp2_with fail
  go_ret
  exact ⟨rfl, H13.out⟩

theorem walk (a0 a1 : Int) (a2 : ByteArray) (w0 : (Lit.int .u8 a0).wf = true) (w1 : (Lit.int .i64 a1).wf = true) (w2 : a2.size ≤ maxLen) (w : World) :
    Calls Try.prog 6 #[.int .u8 a0, .int .i64 a1, .string a2] w fun e w' => e = .returned (.bool true) ∧ Below w.heap.size w w' := by
  obtain ⟨b0, t0⟩ := u8_of_wf w0
  have t1 := i64_of_wf w1
  unfold maxLen at w2
  obtain ⟨a, rfl⟩ := Int.eq_ofNat_of_zero_le b0
  by_cases hs : a2.size ≤ 200
  · exact core a a1 (by omega) a2 hs _ _ _ _ _ _ (Sbox.Rdr.mak fun w => Sbox.turn_any a a1 w (by omega) t1) (RefSbox.turn_ret a a1 (by omega) t1).mak (Sbox.sub_rdr a (by omega)).mak (RefSbox.sub_rdr a (by omega)).mak
      (Sbox.back_rdr a (by omega)).mak (RefSbox.back_rdr a (by omega)).mak (Sbox.subs_mak a2 (by omega)) (RefSbox.subs_mak a2 (by omega)) (Sbox.backs_mak a2 (by omega)) (RefSbox.backs_mak a2 (by omega)) (fun w => Sbox.table_any w) RefSbox.table_mak w
  · have H0 := Lib.hid (Since.refl w)
    go_enter Try.func6, Try.ntmps6
    go_wp2_with fail
    all_goals
      refine (Sbox.awake_mak).calls H0.out ?_
      intro w3 h3
      have H3 := Lib.hid h3
      clear h3
      go_wp2_with fail
      go_ret
      exact ⟨rfl, H3.out⟩

theorem own : ownKnob Try.prog.godebug = none := by kernel_rfl

set_option maxRecDepth 100000 in
theorem lifted (os : Os) (started : os.Started) (H : Type) (enc : TypeId × Value → H) :
    ReturnsInHanded {} Try.checked os 6 .any (Rows.sboxTellsSpec.pre6 enc Try.prog Try.f6 Rows.sboxTellsRow.domain false) (Rows.sboxTellsSpec.post enc Try.prog Try.f6 false true false false) := by
  refine returnsInHanded_of_change (C := Try.checked) own started (by kernel_rfl) Try.func6
    (ChangeSpec.witness6 (enc := enc) (C := Try.checked) false ⟨#[], #[.int .u8 0, .int .i64 0, .string ⟨#[]⟩], []⟩ 8 (by kernel_rfl) (by kernel_rfl) (by kernel_rfl) (by kernel_rfl)) ?_
  intro W base args ds gs before hval0 hW hcnd _
  have hval : ∀ (j : Nat) t v, Try.f6.params[j]? = some t → args[j]? = some v → Value.okWide Try.prog W .any base t v := hval0
  have hW' := hW
  obtain ⟨p, q, hA0, hV, rfl, hfz, hnd⟩ := hW
  have hA : DataW.TrodAll enc Try.prog W 0 (fun _ => true) true Try.f6.params.toList args.toList ds p := hA0
  rw [Try.params6] at hA hval
  obtain ⟨v0, vs0, d0, ds0, p0, q0, hargs, rfl, rfl, h0, r0⟩ := trodAll_cons hA
  obtain ⟨v1, vs1, d1, ds1, p1, q1, rfl, rfl, rfl, h1, r1⟩ := trodAll_cons r0
  obtain ⟨v2, vs2, d2, ds2, p2, q2, rfl, rfl, rfl, h2, r2⟩ := trodAll_cons r1
  obtain ⟨rfl, rfl, rfl⟩ := trodAll_nil r2
  obtain rfl : args = #[v0, v1, v2] := by cases args; simp_all
  obtain ⟨rfl, rfl⟩ := trodVars_none hV
  obtain ⟨a0, rfl, rfl, rfl, w0⟩ := open_int Try.underlying5 (hval 0 5 v0 rfl rfl) h0
  obtain ⟨a1, rfl, rfl, rfl, w1⟩ := open_int Try.underlying3 (hval 1 3 v1 rfl rfl) h1
  obtain ⟨a2, rfl, rfl, rfl, w2⟩ := Go.ChangeMaps.open_string Try.underlying9 (hval 2 9 v2 rfl rfl) h2
  clear hA0 hval0
  simp only [List.append_nil] at hW'
  refine (walk a0 a1 a2 w0 w1 w2 W).mono fun e W' ⟨he, hg⟩ => ?_
  subst he
  exact ⟨_, rfl, _, _, _, _, _, [], hW', (trodAll_cons_mk (shut_bool Try.underlying4 _) trodAll_mk0), (trodAll_cons_mk (shut_int Try.underlying5 w0) (trodAll_cons_mk (shut_int Try.underlying3 w1) (trodAll_cons_mk (Go.ChangeMaps.shut_string Try.underlying9 w2) trodAll_mk0))), rfl, hg.frame _, fun h => by cases h⟩

theorem over : Rows.sboxTellsRow.holds Try.pinned (OpenSpec.ofChange Rows.sboxTellsSpec) :=
  OpenClaim.holds_of_wide 6 Try.f6 rfl rfl rfl rfl rfl rfl rfl ⟨rfl, rfl, rfl, rfl, rfl⟩ rfl rfl rfl rfl rfl (by kernel_rfl) Try.func6 (by kernel_rfl)
    (of_decide_eq_true (by kernel_rfl)) (by unfold Func.isWrapper; first | (rw [if_pos (by decide +kernel)]; kernel_rfl) | (rw [if_neg (by decide +kernel)]; exact ⟨rfl, rfl⟩))
    (fun os started H enc _ => lifted os started H enc)

theorem proved : Rows.SboxTellsSaid :=
  over

end Go.Proofs.Ytcdjpdncgaeinaa.sboxTells
