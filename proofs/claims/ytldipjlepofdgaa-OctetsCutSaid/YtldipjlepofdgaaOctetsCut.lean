/- The law OctetsCut: for every text and numbers, Cut, Pieces, Zeros, Pad and Trim answer as the reference does; no conditions. -/
import Derived.Test.YtldipjlepofdgaaRows
import Derived.WalkKit
import Derived.ProofKit
import Derived.OpenShut
import Derived.Lib.Hide
import Derived.Test.YtldipjlepofdgaaOctAwake
import Derived.Test.YtldipjlepofdgaaRefOct3
import Derived.Test.YtldipjlepofdgaaSlEq
namespace Go.Proofs.Ytldipjlepofdgaa.octetsCut
open Go.ChangeShapes Go.WideShapes Go.ChangeAt Go.RowKit

theorem both_cut (s : ByteArray) (a n : Int) (hs : s.size ≤ 500) (w1 : -9223372036854775808 ≤ a ∧ a ≤ 9223372036854775807) (w2 : -9223372036854775808 ≤ n ∧ n ≤ 9223372036854775807) :
    ∃ X, Ret 17 #[.string s, .int .i64 a, .int .i64 n] (.string X) ∧ Ret 18 #[.string s, .int .i64 a, .int .i64 n] (.string X) := by
  by_cases h : a < 0 ∨ n < 1
  · exact ⟨⟨#[]⟩, fun w => Oct.cut_no s a n w (by omega) (by omega), fun w => RefOct.cut_no s a n w h⟩
  · obtain ⟨a, rfl⟩ := Int.eq_ofNat_of_zero_le (show 0 ≤ a by omega)
    obtain ⟨n, rfl⟩ := Int.eq_ofNat_of_zero_le (show 0 ≤ n by omega)
    by_cases h1 : a < s.size
    · exact ⟨_, fun w => Oct.cut_yes s a n w (by omega) (by omega) h1 (by omega), fun w => RefOct.cut_yes s a n w (by omega) (by omega) (by omega) (by omega) _ rfl⟩
    · refine ⟨⟨#[]⟩, fun w => Oct.cut_no s a n w (by omega) (by omega), fun w => RefOct.cut_yes s a n w (by omega) (by omega) (by omega) (by omega) _ ?_⟩
      have h9 : s.size = s.data.toList.length := rfl
      rw [List.drop_of_length_le (by omega)]
      simp [bs]

theorem both_pieces (s : ByteArray) (n : Int) (hs : s.size ≤ 500) (w2 : -9223372036854775808 ≤ n ∧ n ≤ 9223372036854775807) :
    ∃ L, MakS 20 #[.string s, .int .i64 n] L ∧ MakS 21 #[.string s, .int .i64 n] L := by
  by_cases h : n < 1
  · exact ⟨[], Oct.pieces_no s n h, RefOct.pieces_no s n h⟩
  · obtain ⟨n, rfl⟩ := Int.eq_ofNat_of_zero_le (show 0 ≤ n by omega)
    exact ⟨_, Oct.pieces_mak s n (by omega) (by omega) (by omega) _ rfl, RefOct.pieces_mak s n (by omega) (by omega) (by omega) _ rfl⟩

theorem both_zeros (n : Int) : ∃ Z, Mak 22 #[.int .i64 n] (.string Z) ∧ Mak 23 #[.int .i64 n] (.string Z) := by
  by_cases h : n < 1 ∨ 65552 < n
  · exact ⟨⟨#[]⟩, Ret.mak fun w => Oct.zeros_no n w h, (RefOct.zeros_no n h).mak⟩
  · obtain ⟨n, rfl⟩ := Int.eq_ofNat_of_zero_le (show 0 ≤ n by omega)
    exact ⟨_, fun w => Oct.zeros_yes n w (by omega) (by omega), RefOct.zeros_yes n (by omega) (by omega)⟩

theorem pad_least (S n r : Nat) (hn : 0 < n) (hr : S % n = r) (h : 0 < r) : (S + (n - r)) % n = 0 ∧ ∀ k, k < n - r → (S + k) % n ≠ 0 := by
  have hlt : r < n := by rw [← hr]; exact Nat.mod_lt _ hn
  have hS : S = n * (S / n) + r := by rw [← hr]; exact (Nat.div_add_mod S n).symm
  refine ⟨?_, fun k hk => ?_⟩
  · rw [hS, show n * (S / n) + r + (n - r) = n * (S / n) + n from by omega, Nat.add_mod_right, Nat.mul_mod_right]
  · rw [hS, show n * (S / n) + r + k = r + k + n * (S / n) from by omega, Nat.add_mul_mod_self_left, Nat.mod_eq_of_lt (by omega)]
    omega

theorem both_pad (s : ByteArray) (n : Int) (hs : s.size ≤ 500) : ∃ Z, Mak 24 #[.string s, .int .i64 n] (.string Z) ∧ Mak 25 #[.string s, .int .i64 n] (.string Z) := by
  by_cases h : n < 1 ∨ 65535 < n
  · exact ⟨s, Ret.mak fun w => Oct.pad_no s n w (by omega) h, (RefOct.pad_no s n h).mak⟩
  · obtain ⟨n, rfl⟩ := Int.eq_ofNat_of_zero_le (show 0 ≤ n by omega)
    by_cases h0 : s.size % n = 0
    · refine ⟨s, Ret.mak fun w => Oct.pad_even s n w (by omega) (by omega) (by omega) h0, ?_⟩
      have h := RefOct.pad_yes s n (by omega) (by omega) (by omega) 0 (by simpa using h0) (fun k hk => absurd hk (Nat.not_lt_zero k)) (by omega)
      rwa [List.replicate_zero, List.append_nil, bs_list] at h
    · have hlt := Nat.mod_lt s.size (show 0 < n by omega)
      obtain ⟨h1, h2⟩ := pad_least s.size n _ (by omega) rfl (by omega)
      exact ⟨_, fun w => Oct.pad_odd s n _ w (by omega) (by omega) (by omega) rfl (by omega), RefOct.pad_yes s n (by omega) (by omega) (by omega) (n - s.size % n) h1 h2 (by omega)⟩

set_option maxRecDepth 100000 in
set_option maxHeartbeats 1000000 in
theorem core (s : ByteArray) (a n : Int) (hs : s.size ≤ 500) (X Z P T : ByteArray) (L : List ByteArray)
    (c1 : Ret 17 #[.string s, .int .i64 a, .int .i64 n] (.string X)) (c2 : Ret 18 #[.string s, .int .i64 a, .int .i64 n] (.string X))
    (c3 : MakS 20 #[.string s, .int .i64 n] L) (c4 : MakS 21 #[.string s, .int .i64 n] L)
    (c5 : Mak 22 #[.int .i64 n] (.string Z)) (c6 : Mak 23 #[.int .i64 n] (.string Z))
    (c7 : Mak 24 #[.string s, .int .i64 a] (.string P)) (c8 : Mak 25 #[.string s, .int .i64 a] (.string P))
    (c9 : Ret 26 #[.string s] (.string T)) (c10 : Ret 27 #[.string s] (.string T)) (w : World) :
    Calls Try.prog 4 #[.string s, .int .i64 a, .int .i64 n] w fun e w' => e = .returned (.bool true) ∧ Since w w' := by
  have H0 := Lib.hid (Since.refl w)
  go_enter Try.func4, Try.ntmps4
  go_wp2_with fail
  refine (c1).calls ?_
  go_wp2_with fail
  refine (c2).calls ?_
  go_wp2_with fail
  refine c3.calls H0.out ?_
  intro v1 w1 o1 b1 h1
  have H_o1 := Lib.hid o1
  clear o1
  have H_b1 := Lib.hid b1
  clear b1
  have H1 := Lib.hid h1
  clear h1
  go_wp2_with fail
  refine c4.calls H1.out ?_
  intro v2 w2 o2 b2 h2
  have H_o2 := Lib.hid o2
  clear o2
  have H_b2 := Lib.hid b2
  clear b2
  have H2 := Lib.hid h2
  clear h2
  go_wp2_with fail
  refine (equal_strs w2 v1 v2 L L ((H_o1.out.read).below H_b2.out) H_o2.out.read true (by simp)).mono ?_
  rintro e w3 ⟨rfl, h3⟩
  have H3 := Lib.hid (H2.out.step h3)
  clear h3
  go_wp2_with fail
  refine (c5).calls H3.out ?_
  intro w4 h4
  have H4 := Lib.hid h4
  clear h4
  go_wp2_with fail
  refine (c6).calls H4.out ?_
  intro w5 h5
  have H5 := Lib.hid h5
  clear h5
  go_wp2_with fail
  refine (c7).calls H5.out ?_
  intro w6 h6
  have H6 := Lib.hid h6
  clear h6
  go_wp2_with fail
  refine (c8).calls H6.out ?_
  intro w7 h7
  have H7 := Lib.hid h7
  clear h7
  go_wp2_with fail
  refine (c9).calls ?_
  go_wp2_with fail
  refine (c10).calls ?_
  go_wp2_with fail
  refine (Oct.awake_mak).calls H7.out ?_
  intro w8 h8
  have H8 := Lib.hid h8
  clear h8
  go_wp2_with fail
  go_ret
  exact ⟨rfl, H8.out⟩

theorem walk (a0 : ByteArray) (a1 a2 : Int) (w0 : a0.size ≤ maxLen) (w1 : (Lit.int .i64 a1).wf = true) (w2 : (Lit.int .i64 a2).wf = true) (w : World) :
    Calls Try.prog 4 #[.string a0, .int .i64 a1, .int .i64 a2] w fun e w' => e = .returned (.bool true) ∧ Below w.heap.size w w' := by
  have t1 := i64_of_wf w1
  have t2 := i64_of_wf w2
  unfold maxLen at w0
  by_cases hs : a0.size ≤ 500
  · obtain ⟨X, x1, x2⟩ := both_cut a0 a1 a2 hs t1 t2
    obtain ⟨L, l1, l2⟩ := both_pieces a0 a2 hs t2
    obtain ⟨Z, z1, z2⟩ := both_zeros a2
    obtain ⟨P, p1, p2⟩ := both_pad a0 a1 hs
    exact core a0 a1 a2 hs X Z P _ L x1 x2 l1 l2 z1 z2 p1 p2 (Oct.trim_ret a0 (by omega) _ rfl) (RefOct.trim_ret a0 (by omega) _ rfl) w
  · have H0 := Lib.hid (Since.refl w)
    clear t1 t2
    go_enter Try.func4, Try.ntmps4
    go_wp2_with fail
    refine (Oct.awake_mak).calls H0.out ?_
    intro w3 h3
    have H3 := Lib.hid h3
    clear h3
    go_wp2_with fail
    go_ret
    exact ⟨rfl, H3.out⟩

theorem own : ownKnob Try.prog.godebug = none := by kernel_rfl

set_option maxRecDepth 100000 in
theorem lifted (os : Os) (started : os.Started) (H : Type) (enc : TypeId × Value → H) :
    ReturnsInHanded {} Try.checked os 4 .any (Rows.octetsCutSpec.pre6 enc Try.prog Try.f4 Rows.octetsCutRow.domain false) (Rows.octetsCutSpec.post enc Try.prog Try.f4 false true false false) := by
  refine returnsInHanded_of_change (C := Try.checked) own started (by kernel_rfl) Try.func4
    (ChangeSpec.witness6 (enc := enc) (C := Try.checked) false ⟨#[], #[.string ⟨#[]⟩, .int .i64 0, .int .i64 0], []⟩ 8 (by kernel_rfl) (by kernel_rfl) (by kernel_rfl) (by kernel_rfl)) ?_
  intro W base args ds gs before hval0 hW hcnd _
  have hval : ∀ (j : Nat) t v, Try.f4.params[j]? = some t → args[j]? = some v → Value.okWide Try.prog W .any base t v := hval0
  have hW' := hW
  obtain ⟨p, q, hA0, hV, rfl, hfz, hnd⟩ := hW
  have hA : DataW.TrodAll enc Try.prog W 0 (fun _ => true) true Try.f4.params.toList args.toList ds p := hA0
  rw [Try.params4] at hA hval
  obtain ⟨v0, vs0, d0, ds0, p0, q0, hargs, rfl, rfl, h0, r0⟩ := trodAll_cons hA
  obtain ⟨v1, vs1, d1, ds1, p1, q1, rfl, rfl, rfl, h1, r1⟩ := trodAll_cons r0
  obtain ⟨v2, vs2, d2, ds2, p2, q2, rfl, rfl, rfl, h2, r2⟩ := trodAll_cons r1
  obtain ⟨rfl, rfl, rfl⟩ := trodAll_nil r2
  obtain rfl : args = #[v0, v1, v2] := by cases args; simp_all
  obtain ⟨rfl, rfl⟩ := trodVars_none hV
  obtain ⟨a0, rfl, rfl, rfl, w0⟩ := Go.ChangeMaps.open_string Try.underlying9 (hval 0 9 v0 rfl rfl) h0
  obtain ⟨a1, rfl, rfl, rfl, w1⟩ := open_int Try.underlying3 (hval 1 3 v1 rfl rfl) h1
  obtain ⟨a2, rfl, rfl, rfl, w2⟩ := open_int Try.underlying3 (hval 2 3 v2 rfl rfl) h2
  clear hA0 hval0
  simp only [List.append_nil] at hW'
  refine (walk a0 a1 a2 w0 w1 w2 W).mono fun e W' ⟨he, hg⟩ => ?_
  subst he
  exact ⟨_, rfl, _, _, _, _, _, [], hW', (trodAll_cons_mk (shut_bool Try.underlying4 _) trodAll_mk0), (trodAll_cons_mk (Go.ChangeMaps.shut_string Try.underlying9 w0) (trodAll_cons_mk (shut_int Try.underlying3 w1) (trodAll_cons_mk (shut_int Try.underlying3 w2) trodAll_mk0))), rfl, hg.frame _, fun h => by cases h⟩

theorem over : Rows.octetsCutRow.holds Try.pinned (OpenSpec.ofChange Rows.octetsCutSpec) :=
  OpenClaim.holds_of_wide 4 Try.f4 rfl rfl rfl rfl rfl rfl rfl ⟨rfl, rfl, rfl, rfl, rfl⟩ rfl rfl rfl rfl rfl (by kernel_rfl) Try.func4 (by kernel_rfl)
    (of_decide_eq_true (by kernel_rfl)) (by unfold Func.isWrapper; first | (rw [if_pos (by decide +kernel)]; kernel_rfl) | (rw [if_neg (by decide +kernel)]; exact ⟨rfl, rfl⟩))
    (fun os started H enc _ => lifted os started H enc)

theorem proved : Rows.OctetsCutSaid :=
  over

end Go.Proofs.Ytldipjlepofdgaa.octetsCut
