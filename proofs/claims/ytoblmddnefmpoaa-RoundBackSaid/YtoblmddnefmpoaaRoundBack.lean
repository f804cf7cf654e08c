/- The law RoundBack: what is undone is as it was; shifted four times it is, too; no conditions. -/
import Derived.Test.YtoblmddnefmpoaaRows
import Derived.WalkKit
import Derived.ProofKit
import Derived.OpenShut
import Derived.Lib.Hide
import Derived.SizedLaws
import Derived.Test.YtoblmddnefmpoaaRndAwake
namespace Go.Proofs.Ytoblmddnefmpoaa.roundBack
open Go.ChangeShapes Go.WideShapes Go.ChangeAt Go.RowKit

set_option maxRecDepth 100000 in
set_option maxHeartbeats 4000000 in
theorem core (s k : ByteArray) (b : Bool) (h1 : (s.size : Int) = 16) (h2 : (k.size : Int) = 16) (A B C D E F G : ByteArray)
    (c1 : Mak 27 #[.string s] (.string A)) (c2 : Mak 27 #[.string A] (.string B)) (c3 : Mak 27 #[.string B] (.string C)) (c4 : Mak 27 #[.string C] (.string s))
    (c5 : Mak 37 #[.string s, .string k, .bool b] (.string D)) (c6 : Mak 39 #[.string D, .string k, .bool b] (.string s))
    (c7 : Mak 39 #[.string s, .string k, .bool b] (.string E)) (c8 : Mak 37 #[.string E, .string k, .bool b] (.string s))
    (c9 : Mak 31 #[.string s] (.string F)) (d1 : Mak 33 #[.string F] (.string s)) (d2 : Mak 29 #[.string A] (.string s)) (w : World) :
    Calls Try.prog 7 #[.string s, .string k, .bool b] w fun e w' => e = .returned (.bool true) ∧ Since w w' := by
  have H0 := Lib.hid (Since.refl w)
  have hq := str_eq_t (rfl : s = s)
  go_enter Try.func7, Try.ntmps7
  go_wp2_with fail
  refine c1.calls H0.out ?_
  intro w1 h1
  have H1 := Lib.hid h1
  clear h1
  go_wp2_with fail
  refine c2.calls H1.out ?_
  intro w2 h2
  have H2 := Lib.hid h2
  clear h2
  go_wp2_with fail
  refine c3.calls H2.out ?_
  intro w3 h3
  have H3 := Lib.hid h3
  clear h3
  go_wp2_with fail
  refine c4.calls H3.out ?_
  intro w4 h4
  have H4 := Lib.hid h4
  clear h4
  go_wp2_with fail
  refine c5.calls H4.out ?_
  intro w5 h5
  have H5 := Lib.hid h5
  clear h5
  go_wp2_with fail
  refine c6.calls H5.out ?_
  intro w6 h6
  have H6 := Lib.hid h6
  clear h6
  go_wp2_with fail
  refine c7.calls H6.out ?_
  intro w7 h7
  have H7 := Lib.hid h7
  clear h7
  go_wp2_with fail
  refine c8.calls H7.out ?_
  intro w8 h8
  have H8 := Lib.hid h8
  clear h8
  go_wp2_with fail
  refine c9.calls H8.out ?_
  intro w9 h9
  have H9 := Lib.hid h9
  clear h9
  go_wp2_with fail
  refine d1.calls H9.out ?_
  intro w10 h10
  have H10 := Lib.hid h10
  clear h10
  go_wp2_with fail
  refine c1.calls H10.out ?_
  intro w11 h11
  have H11 := Lib.hid h11
  clear h11
  go_wp2_with fail
  refine d2.calls H11.out ?_
  intro w12 h12
  have H12 := Lib.hid h12
  clear h12
  go_wp2_with fail
  refine Rnd.awake_mak.calls H12.out ?_
  intro w13 h13
  have H13 := Lib.hid h13
  clear h13
  go_wp2_with fail
  go_ret
  exact ⟨rfl, H13.out⟩

set_option maxHeartbeats 4000000 in
theorem core_no (s k : ByteArray) (b : Bool) (hm : s.size ≤ 9223372036854775807) (hm2 : k.size ≤ 9223372036854775807) (h : s.size ≠ 16 ∨ k.size ≠ 16)
    (c1 : Mak 37 #[.string s, .string k, .bool b] (.string ⟨#[]⟩)) (c2 : Mak 39 #[.string s, .string k, .bool b] (.string ⟨#[]⟩)) (w : World) :
    Calls Try.prog 7 #[.string s, .string k, .bool b] w fun e w' => e = .returned (.bool true) ∧ Since w w' := by
  have H0 := Lib.hid (Since.refl w)
  by_cases h1 : s.size = 16
  · have hb : ((k.size : Int) != 16) = true := by rw [bne_iff_ne]; omega
    have hs : (s.size : Int) = 16 := by omega
    clear h h1
    go_enter Try.func7, Try.ntmps7
    go_wp2_with fail
    refine c1.calls H0.out ?_
    intro w1 h1
    have H1 := Lib.hid h1
    clear h1
    go_wp2_with fail
    refine c2.calls H1.out ?_
    intro w2 h2
    have H2 := Lib.hid h2
    clear h2
    go_wp2_with fail
    refine Rnd.awake_mak.calls H2.out ?_
    intro w3 h3
    have H3 := Lib.hid h3
    clear h3
    go_wp2_with fail
    go_ret
    exact ⟨rfl, H3.out⟩
  · have hb : ((s.size : Int) != 16) = true := by rw [bne_iff_ne]; omega
    clear h h1
    go_enter Try.func7, Try.ntmps7
    go_wp2_with fail
    refine c1.calls H0.out ?_
    intro w1 h1
    have H1 := Lib.hid h1
    clear h1
    go_wp2_with fail
    refine c2.calls H1.out ?_
    intro w2 h2
    have H2 := Lib.hid h2
    clear h2
    go_wp2_with fail
    refine Rnd.awake_mak.calls H2.out ?_
    intro w3 h3
    have H3 := Lib.hid h3
    clear h3
    go_wp2_with fail
    go_ret
    exact ⟨rfl, H3.out⟩
theorem walk (a0 a1 : ByteArray) (a2 : Bool) (w0 : a0.size ≤ reachBytes) (w1 : a1.size ≤ reachBytes) (w : World) :
    Calls Try.prog 7 #[.string a0, .string a1, .bool a2] w fun e w' => e = .returned (.bool true) ∧ Below w.heap.size w w' := by
  unfold reachBytes at w0 w1
  by_cases h : a0.size = 16 ∧ a1.size = 16
  · obtain ⟨h0, h1⟩ := h
    have hl : a0.data.toList.length = 16 := h0
    have e : ∀ (l : List UInt8) , l = a0.data.toList → a0 = bs l := fun l hl => by rw [hl, bs_list]
    have z : ∀ l : List UInt8, l.length = 16 → (bs l).size = 16 := fun l h => by rw [size_bs, h]
    exact core a0 a1 a2 (by omega) (by omega) (bs (Rnd.shiftL a0.data.toList)) (bs (Rnd.shiftL (Rnd.shiftL a0.data.toList))) (bs (Rnd.shiftL (Rnd.shiftL (Rnd.shiftL a0.data.toList)))) (bs (Rnd.doL a2 a0.data.toList a1.data.toList)) (bs (Rnd.undoL a2 a0.data.toList a1.data.toList)) (bs (Rnd.mixL Rnd.mixF a0.data.toList)) ⟨#[]⟩
      (Rnd.shift_mak a0 h0 _ rfl) (Rnd.shift_mak _ (z _ (Rnd.shiftL_len _)) _ rfl) (Rnd.shift_mak _ (z _ (Rnd.shiftL_len _)) _ rfl) (Rnd.shift_mak _ (z _ (Rnd.shiftL_len _)) _ (e _ (Rnd.shift4 _ hl)))
      (Rnd.do_mak a0 a1 h0 h1 a2 _ rfl) (Rnd.undo_mak _ a1 (z _ (Rnd.doL_len _ _ _)) h1 a2 _ (e _ (Rnd.undo_do a2 _ _ hl)))
      (Rnd.undo_mak a0 a1 h0 h1 a2 _ rfl) (Rnd.do_mak _ a1 (z _ (Rnd.undoL_len _ _ _)) h1 a2 _ (e _ (Rnd.do_undo a2 _ _ hl)))
      (Rnd.mix_mak a0 h0 _ rfl) (Rnd.unmix_mak _ (z _ (Rnd.mixL_len _ _)) _ (e _ (Rnd.mix_inv _ _ Rnd.inv_mu _ hl))) (Rnd.unshift_mak _ (z _ (Rnd.shiftL_len _)) _ (e _ (Rnd.unshift_shift _ hl))) w
  · exact core_no a0 a1 a2 (by omega) (by omega) (by omega) (Rnd.do_no a0 a1 (by omega) (by omega) (by omega) a2) (Rnd.undo_no a0 a1 (by omega) (by omega) (by omega) a2) w

theorem own : ownKnob Try.prog.godebug = none := by kernel_rfl

set_option maxRecDepth 100000 in
theorem lifted (os : Os) (started : os.Started) (H : Type) (enc : TypeId × Value → H) :
    ReturnsInHanded {} Try.checked os 7 .any (Rows.roundBackSpec.pre6 enc Try.prog Try.f7 Rows.roundBackRow.domain false) (Rows.roundBackSpec.post enc Try.prog Try.f7 false true false false) := by
  refine returnsInHanded_of_change_sized (C := Try.checked) own started (by kernel_rfl) Try.func7
    (ChangeSpec.witness6 (enc := enc) (C := Try.checked) false ⟨#[], #[.string ⟨#[]⟩, .string ⟨#[]⟩, .bool false], []⟩ 8 (by kernel_rfl) (by kernel_rfl) (by kernel_rfl) (by kernel_rfl)) ?_
  intro W base args ds gs before hval0 hW hcnd hsz0 _
  have hval : ∀ (j : Nat) t v, Try.f7.params[j]? = some t → args[j]? = some v → Value.okWide Try.prog W .any base t v := hval0
  have hW' := hW
  obtain ⟨p, q, hA0, hV, rfl, hfz, hnd⟩ := hW
  have hA : DataW.TrodAll enc Try.prog W 0 (fun _ => true) true Try.f7.params.toList args.toList ds p := hA0
  have hsz : (DataW.weightsEach Try.prog (Try.f7.params.toList ++ Rows.roundBackSpec.plain.varTypes Try.prog) (ds ++ gs)).all (· ≤ reachBytes) = true := hsz0
  rw [Try.params7] at hA hval hsz
  obtain ⟨v0, vs0, d0, ds0, p0, q0, hargs, rfl, rfl, h0, r0⟩ := trodAll_cons hA
  obtain ⟨v1, vs1, d1, ds1, p1, q1, rfl, rfl, rfl, h1, r1⟩ := trodAll_cons r0
  obtain ⟨v2, vs2, d2, ds2, p2, q2, rfl, rfl, rfl, h2, r2⟩ := trodAll_cons r1
  obtain ⟨rfl, rfl, rfl⟩ := trodAll_nil r2
  obtain rfl : args = #[v0, v1, v2] := by cases args; simp_all
  obtain ⟨rfl, rfl⟩ := trodVars_none hV
  obtain ⟨a0, rfl, rfl, rfl, w0⟩ := Go.ChangeMaps.open_string Try.underlying9 (hval 0 9 v0 rfl rfl) h0
  obtain ⟨a1, rfl, rfl, rfl, w1⟩ := Go.ChangeMaps.open_string Try.underlying9 (hval 1 9 v1 rfl rfl) h1
  obtain ⟨a2, rfl, rfl, rfl⟩ := open_bool Try.underlying4 (hval 2 4 v2 rfl rfl) h2
  have z0 : a0.size ≤ reachBytes := sized_string hsz (j := 0) (t := 9) rfl rfl
  have z1 : a1.size ≤ reachBytes := sized_string hsz (j := 1) (t := 9) rfl rfl
  clear hA0 hval0
  simp only [List.append_nil] at hW'
  refine (walk a0 a1 a2 z0 z1 W).mono fun e W' ⟨he, hg⟩ => ?_
  subst he
  exact ⟨_, rfl, _, _, _, _, _, [], hW', (trodAll_cons_mk (shut_bool Try.underlying4 _) trodAll_mk0), (trodAll_cons_mk (Go.ChangeMaps.shut_string Try.underlying9 w0) (trodAll_cons_mk (Go.ChangeMaps.shut_string Try.underlying9 w1) (trodAll_cons_mk (shut_bool Try.underlying4 _) trodAll_mk0))), rfl, hg.frame _, fun h => by cases h⟩

theorem over : Rows.roundBackRow.holds Try.pinned (OpenSpec.ofChange Rows.roundBackSpec) :=
  OpenClaim.holds_of_wide 7 Try.f7 rfl rfl rfl rfl rfl rfl rfl ⟨rfl, rfl, rfl, rfl, rfl⟩ rfl rfl rfl rfl rfl (by kernel_rfl) Try.func7 (by kernel_rfl)
    (of_decide_eq_true (by kernel_rfl)) (by unfold Func.isWrapper; first | (rw [if_pos (by decide +kernel)]; kernel_rfl) | (rw [if_neg (by decide +kernel)]; exact ⟨rfl, rfl⟩))
    (fun os started H enc _ => lifted os started H enc)

theorem proved : Rows.RoundBackSaid :=
  over

end Go.Proofs.Ytoblmddnefmpoaa.roundBack
