/- The law DigitsDec: for all numbers and texts, Dec, Undec, Num and Unnum answer as the reference does; no conditions. -/
import Derived.Test.YtldipjlepofdgaaRows
import Derived.WalkKit
import Derived.ProofKit
import Derived.OpenShut
import Derived.Lib.Hide
import Derived.Test.YtldipjlepofdgaaDigitsHex
import Derived.Test.YtldipjlepofdgaaUnnum
import Derived.Test.YtldipjlepofdgaaRefNum2
namespace Go.Proofs.Ytldipjlepofdgaa.digitsDec
open Go.ChangeShapes Go.WideShapes Go.ChangeAt Go.RowKit

theorem both_undec (t : ByteArray) (hm : t.size ≤ 100) : ∃ N B, Ret 39 #[.string t] (.tuple #[.int .i64 N, .bool B]) ∧ Ret 40 #[.string t] (.tuple #[.int .i64 N, .bool B]) := by
  by_cases h : t.size < 1 ∨ 18 < t.size
  · exact ⟨0, false, fun w => Dig.undec_out t w h (by omega), RefDig.undec_out t h (by omega)⟩
  · exact ⟨_, _, fun w => Dig.undec_in t w (by omega) (by omega) _ _ rfl rfl, RefDig.undec_in t (by omega) (by omega) _ _ rfl rfl⟩

theorem both_unnum (t : ByteArray) (hm : t.size ≤ 100) : ∃ N B, Mak 41 #[.string t] (.tuple #[.int .i64 N, .bool B]) ∧ Mak 42 #[.string t] (.tuple #[.int .i64 N, .bool B]) := by
  by_cases h : 20 < t.size
  · exact ⟨0, false, fun w => Dig.unnum_long t w (by omega) h, (RefDig.unnum_out t (Or.inr h) (by omega)).mak⟩
  · by_cases h0 : t.size < 1
    · refine ⟨0, false, fun w => Dig.unnum_short t w (by omega) 0 0 false ?_ ?_ ?_, (RefDig.unnum_out t (Or.inl h0) (by omega)).mak⟩
      all_goals
        obtain rfl : t = ⟨#[]⟩ := ba_ext (List.eq_nil_of_length_eq_zero (by have h8 : t.size = t.data.toList.length := rfl; omega))
        first | rfl | decide +kernel
    · have hV : ∀ B : Bool, B = decide (bs (Dig.numS (Dig.unV t.data.toList)) = t) → (if B = true then Dig.unV t.data.toList else 0) = if bs (Dig.numS (Dig.unV t.data.toList)) = t then Dig.unV t.data.toList else 0 := fun B hB => by
        by_cases hE : bs (Dig.numS (Dig.unV t.data.toList)) = t
        · rw [hB, decide_eq_true hE, if_pos rfl, if_pos hE]
        · rw [hB, decide_eq_false hE, if_neg (by decide), if_neg hE]
      by_cases h45 : t[0].toNat = 45
      · exact ⟨_, _, fun w => Dig.unnum_short t w (by omega) _ _ _ rfl rfl rfl, RefDig.unnum_neg t (by omega) (by omega) h45 _ _ _ rfl rfl (hV _ rfl).symm⟩
      · exact ⟨_, _, fun w => Dig.unnum_short t w (by omega) _ _ _ rfl rfl rfl, RefDig.unnum_pos t (by omega) (by omega) h45 _ _ _ rfl rfl (hV _ rfl).symm⟩

theorem both_dec (n width : Int) (b1 : -9223372036854775808 ≤ n ∧ n ≤ 9223372036854775807) :
    ∃ D, Mak 43 #[.int .i64 n, .int .i64 width] (.string D) ∧ Mak 44 #[.int .i64 n, .int .i64 width] (.string D) := by
  by_cases h : n < 0 ∨ width < 1 ∨ 18 < width
  · have h2 : Ret 43 #[.int .i64 n, .int .i64 width] (.string ⟨#[]⟩) := fun w => Dig.dec_out n width w h
    exact ⟨⟨#[]⟩, h2.mak, (RefDig.dec_out n width h).mak⟩
  · obtain ⟨n, rfl⟩ := Int.eq_ofNat_of_zero_le (show 0 ≤ n by omega)
    obtain ⟨W, rfl⟩ := Int.eq_ofNat_of_zero_le (show 0 ≤ width by omega)
    exact ⟨_, fun w => Dig.dec_mid n W w (by omega) (by omega) (by omega) _ rfl, RefDig.dec_mid n W (by omega) (by omega) (by omega) _ rfl⟩

set_option maxRecDepth 100000 in
set_option maxHeartbeats 4000000 in
theorem core (n width : Int) (t : ByteArray) (ht : t.size ≤ 100) (a c : Int) (k f : Bool) (D N : ByteArray)
    (c1 : Ret 39 #[.string t] (.tuple #[.int .i64 a, .bool k])) (c2 : Ret 40 #[.string t] (.tuple #[.int .i64 a, .bool k]))
    (c3 : Mak 41 #[.string t] (.tuple #[.int .i64 c, .bool f])) (c4 : Mak 42 #[.string t] (.tuple #[.int .i64 c, .bool f]))
    (c5 : Mak 43 #[.int .i64 n, .int .i64 width] (.string D)) (c6 : Mak 44 #[.int .i64 n, .int .i64 width] (.string D))
    (c7 : Mak 45 #[.int .i64 n] (.string N)) (c8 : Mak 46 #[.int .i64 n] (.string N)) (w : World) :
    Calls Try.prog 8 #[.int .i64 n, .int .i64 width, .string t] w fun e w' => e = .returned (.bool true) ∧ Since w w' := by
  have H0 := Lib.hid (Since.refl w)
  have ba : (a == a) = true := by simp
  have bc : (c == c) = true := by simp
  have bk : (k == k) = true := by simp
  have bf : (f == f) = true := by simp
  go_enter Try.func8, Try.ntmps8
  go_wp2_with fail
  refine (c1).calls ?_
  go_wp2_with fail
  refine (c2).calls ?_
  go_wp2_with fail
  refine (c3).calls H0.out ?_
  intro w1 h1
  have H1 := Lib.hid h1
  clear h1
  go_wp2_with fail
  refine (c4).calls H1.out ?_
  intro w2 h2
  have H2 := Lib.hid h2
  clear h2
  go_wp2_with fail
  refine (c5).calls H2.out ?_
  intro w3 h3
  have H3 := Lib.hid h3
  clear h3
  go_wp2_with fail
  refine (c6).calls H3.out ?_
  intro w4 h4
  have H4 := Lib.hid h4
  clear h4
  go_wp2_with fail
  refine (c7).calls H4.out ?_
  intro w5 h5
  have H5 := Lib.hid h5
  clear h5
  go_wp2_with fail
  refine (c8).calls H5.out ?_
  intro w6 h6
  have H6 := Lib.hid h6
  clear h6
  go_wp2_with fail
  refine (Dig.awake_mak).calls H6.out ?_
  intro w7 h7
  have H7 := Lib.hid h7
  clear h7
  go_wp2_with fail
  go_ret
  exact ⟨rfl, H7.out⟩

theorem walk (a0 a1 : Int) (a2 : ByteArray) (w0 : (Lit.int .i64 a0).wf = true) (w1 : (Lit.int .i64 a1).wf = true) (w2 : a2.size ≤ maxLen) (w : World) :
    Calls Try.prog 8 #[.int .i64 a0, .int .i64 a1, .string a2] w fun e w' => e = .returned (.bool true) ∧ Below w.heap.size w w' := by
  have t0 := i64_of_wf w0
  have t1 := i64_of_wf w1
  unfold maxLen at w2
  by_cases hs : a2.size ≤ 100
  · obtain ⟨a, k, x1, x2⟩ := both_undec a2 hs
    obtain ⟨c, f, x3, x4⟩ := both_unnum a2 hs
    obtain ⟨D, x5, x6⟩ := both_dec a0 a1 t0
    exact core a0 a1 a2 hs a c k f D _ x1 x2 x3 x4 x5 x6 (Dig.num_mak a0 t0) (RefDig.num_any a0 t0 _ rfl) w
  · have H0 := Lib.hid (Since.refl w)
    clear t0 t1
    go_enter Try.func8, Try.ntmps8
    go_wp2_with fail
    all_goals
      refine (Dig.awake_mak).calls H0.out ?_
      intro w3 h3
      have H3 := Lib.hid h3
      clear h3
      go_wp2_with fail
      go_ret
      exact ⟨rfl, H3.out⟩

theorem own : ownKnob Try.prog.godebug = none := by kernel_rfl

set_option maxRecDepth 100000 in
theorem lifted (os : Os) (started : os.Started) (H : Type) (enc : TypeId × Value → H) :
    ReturnsInHanded {} Try.checked os 8 .any (Rows.digitsDecSpec.pre6 enc Try.prog Try.f8 Rows.digitsDecRow.domain false) (Rows.digitsDecSpec.post enc Try.prog Try.f8 false true false false) := by
  refine returnsInHanded_of_change (C := Try.checked) own started (by kernel_rfl) Try.func8
    (ChangeSpec.witness6 (enc := enc) (C := Try.checked) false ⟨#[], #[.int .i64 0, .int .i64 0, .string ⟨#[]⟩], []⟩ 8 (by kernel_rfl) (by kernel_rfl) (by kernel_rfl) (by kernel_rfl)) ?_
  intro W base args ds gs before hval0 hW hcnd _
  have hval : ∀ (j : Nat) t v, Try.f8.params[j]? = some t → args[j]? = some v → Value.okWide Try.prog W .any base t v := hval0
  have hW' := hW
  obtain ⟨p, q, hA0, hV, rfl, hfz, hnd⟩ := hW
  have hA : DataW.TrodAll enc Try.prog W 0 (fun _ => true) true Try.f8.params.toList args.toList ds p := hA0
  rw [Try.params8] at hA hval
  obtain ⟨v0, vs0, d0, ds0, p0, q0, hargs, rfl, rfl, h0, r0⟩ := trodAll_cons hA
  obtain ⟨v1, vs1, d1, ds1, p1, q1, rfl, rfl, rfl, h1, r1⟩ := trodAll_cons r0
  obtain ⟨v2, vs2, d2, ds2, p2, q2, rfl, rfl, rfl, h2, r2⟩ := trodAll_cons r1
  obtain ⟨rfl, rfl, rfl⟩ := trodAll_nil r2
  obtain rfl : args = #[v0, v1, v2] := by cases args; simp_all
  obtain ⟨rfl, rfl⟩ := trodVars_none hV
  obtain ⟨a0, rfl, rfl, rfl, w0⟩ := open_int Try.underlying3 (hval 0 3 v0 rfl rfl) h0
  obtain ⟨a1, rfl, rfl, rfl, w1⟩ := open_int Try.underlying3 (hval 1 3 v1 rfl rfl) h1
  obtain ⟨a2, rfl, rfl, rfl, w2⟩ := Go.ChangeMaps.open_string Try.underlying9 (hval 2 9 v2 rfl rfl) h2
  clear hA0 hval0
  simp only [List.append_nil] at hW'
  refine (walk a0 a1 a2 w0 w1 w2 W).mono fun e W' ⟨he, hg⟩ => ?_
  subst he
  exact ⟨_, rfl, _, _, _, _, _, [], hW', (trodAll_cons_mk (shut_bool Try.underlying4 _) trodAll_mk0), (trodAll_cons_mk (shut_int Try.underlying3 w0) (trodAll_cons_mk (shut_int Try.underlying3 w1) (trodAll_cons_mk (Go.ChangeMaps.shut_string Try.underlying9 w2) trodAll_mk0))), rfl, hg.frame _, fun h => by cases h⟩

theorem over : Rows.digitsDecRow.holds Try.pinned (OpenSpec.ofChange Rows.digitsDecSpec) :=
  OpenClaim.holds_of_wide 8 Try.f8 rfl rfl rfl rfl rfl rfl rfl ⟨rfl, rfl, rfl, rfl, rfl⟩ rfl rfl rfl rfl rfl (by kernel_rfl) Try.func8 (by kernel_rfl)
    (of_decide_eq_true (by kernel_rfl)) (by unfold Func.isWrapper; first | (rw [if_pos (by decide +kernel)]; kernel_rfl) | (rw [if_neg (by decide +kernel)]; exact ⟨rfl, rfl⟩))
    (fun os started H enc _ => lifted os started H enc)

theorem proved : Rows.DigitsDecSaid :=
  over

end Go.Proofs.Ytldipjlepofdgaa.digitsDec
