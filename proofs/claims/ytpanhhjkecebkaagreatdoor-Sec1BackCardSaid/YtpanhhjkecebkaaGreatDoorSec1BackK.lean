/- The law Sec1Back: what is written is read as it was; what is read is written so again; no conditions. -/
import Derived.Test.YtpanhhjkecebkaaGreatDoorRows
import Derived.WalkKit
import Derived.ProofKit
import Derived.OpenShut
import Derived.Lib.Hide
import Derived.Lay
import Derived.SevenTiedAt
import Derived.LaidOnce
import Derived.LaidMore
import Derived.Stop.Joined
import Derived.Test.YtpanhhjkecebkaaGreatDoorTie
import Derived.Test.YtpanhhjkecebkaaGreatDoorCards
import Derived.Test.YtpanhhjkecebkaaGreatDoorSb30
import Derived.Test.YtpanhhjkecebkaaGreatDoorSb40
namespace Go.Proofs.YtpanhhjkecebkaaGreatDoor.sec1Back
open Go.ChangeShapes Go.WideShapes Go.ChangeAt Go.RowKit
open Curve Sec
set_option maxRecDepth 100000 in
theorem core_big1 (no : Int) (k s : ByteArray) (h : 200 < k.size) : KMk Tabs 4 #[.int .i64 no, .string k, .string s] (.bool true) := by
  have t1 : decide ((200 : Int) < (k.size : Int)) = true := decide_eq_true (by omega)
  clear h
  intro w hT
  have HT := Lib.hid hT
  have HS := Lib.hid (Since.refl w)
  have c9 := awake_k
  clear hT
  go_enter Tryz.func4, Tryz.ntmps4
  go_wp2_with fail
  refine c9.calls0 HT.out ?_
  intro w1 h1
  replace HS := Lib.hid (HS.out.step h1)
  replace HT := Lib.hid (Kp.keep HT.out h1)
  clear h1
  go_wp2_with fail
  go_ret
  exact ⟨rfl, HS.out⟩
set_option maxRecDepth 100000 in
theorem core_big2 (no : Int) (k s : ByteArray) (h : ¬ 200 < k.size) (h2 : 500 < s.size) : KMk Tabs 4 #[.int .i64 no, .string k, .string s] (.bool true) := by
  have t1 : decide ((200 : Int) < (k.size : Int)) = false := decide_eq_false (by omega)
  have t2 : decide ((500 : Int) < (s.size : Int)) = true := decide_eq_true (by omega)
  clear h h2
  intro w hT
  have HT := Lib.hid hT
  have HS := Lib.hid (Since.refl w)
  have c9 := awake_k
  clear hT
  go_enter Tryz.func4, Tryz.ntmps4
  go_wp2_with fail
  refine c9.calls0 HT.out ?_
  intro w1 h1
  replace HS := Lib.hid (HS.out.step h1)
  replace HT := Lib.hid (Kp.keep HT.out h1)
  clear h1
  go_wp2_with fail
  go_ret
  exact ⟨rfl, HS.out⟩
set_option maxRecDepth 100000 in
set_option maxHeartbeats 4000000 in
theorem core_00 (no : Int) (k s : ByteArray) (h : ¬ 200 < k.size) (h2 : ¬ 500 < s.size) (X : ByteArray) (E : Int) (c1 : KMk Tabs 6 #[.int .i64 no, .string k] (.tuple #[.string X, .int .i64 E])) (hE : (E == 0) = false) (F : Int) (hF : (F != 0) = true) (c4 : KMk Tabs 8 #[.string s] (.tuple #[.int .i64 0, .string ⟨#[]⟩, .int .i64 F])) : KMk Tabs 4 #[.int .i64 no, .string k, .string s] (.bool true) := by
  have t1 : decide ((200 : Int) < (k.size : Int)) = false := decide_eq_false (by omega)
  have t2 : decide ((500 : Int) < (s.size : Int)) = false := decide_eq_false (by omega)
  clear h h2
  intro w hT
  have HT := Lib.hid hT
  have HS := Lib.hid (Since.refl w)
  have c9 := awake_k
  clear hT
  go_enter Tryz.func4, Tryz.ntmps4
  go_wp2_with fail
  refine c1.calls0 HT.out ?_
  intro w1 h1
  replace HS := Lib.hid (HS.out.step h1)
  replace HT := Lib.hid (Kp.keep HT.out h1)
  clear h1
  go_wp2_with fail
  refine c4.calls0 HT.out ?_
  intro w1 h1
  replace HS := Lib.hid (HS.out.step h1)
  replace HT := Lib.hid (Kp.keep HT.out h1)
  clear h1
  go_wp2_with fail
  refine c9.calls0 HT.out ?_
  intro w1 h1
  replace HS := Lib.hid (HS.out.step h1)
  replace HT := Lib.hid (Kp.keep HT.out h1)
  clear h1
  go_wp2_with fail
  go_ret
  exact ⟨rfl, HS.out⟩
set_option maxRecDepth 100000 in
set_option maxHeartbeats 4000000 in
theorem core_01 (no : Int) (k s : ByteArray) (h : ¬ 200 < k.size) (h2 : ¬ 500 < s.size) (X : ByteArray) (E : Int) (c1 : KMk Tabs 6 #[.int .i64 no, .string k] (.tuple #[.string X, .int .i64 E])) (hE : (E == 0) = false) (n : Int) (x : ByteArray) (c4 : KMk Tabs 8 #[.string s] (.tuple #[.int .i64 n, .string x, .int .i64 0])) (c5 : KMk Tabs 6 #[.int .i64 n, .string x] (.tuple #[.string s, .int .i64 0])) (_b2 : (s.toList == s.toList) = true) : KMk Tabs 4 #[.int .i64 no, .string k, .string s] (.bool true) := by
  have t1 : decide ((200 : Int) < (k.size : Int)) = false := decide_eq_false (by omega)
  have t2 : decide ((500 : Int) < (s.size : Int)) = false := decide_eq_false (by omega)
  clear h h2
  intro w hT
  have HT := Lib.hid hT
  have HS := Lib.hid (Since.refl w)
  have c9 := awake_k
  clear hT
  go_enter Tryz.func4, Tryz.ntmps4
  go_wp2_with fail
  refine c1.calls0 HT.out ?_
  intro w1 h1
  replace HS := Lib.hid (HS.out.step h1)
  replace HT := Lib.hid (Kp.keep HT.out h1)
  clear h1
  go_wp2_with fail
  refine c4.calls0 HT.out ?_
  intro w1 h1
  replace HS := Lib.hid (HS.out.step h1)
  replace HT := Lib.hid (Kp.keep HT.out h1)
  clear h1
  go_wp2_with fail
  refine c5.calls0 HT.out ?_
  intro w1 h1
  replace HS := Lib.hid (HS.out.step h1)
  replace HT := Lib.hid (Kp.keep HT.out h1)
  clear h1
  go_wp2_with fail
  refine c9.calls0 HT.out ?_
  intro w1 h1
  replace HS := Lib.hid (HS.out.step h1)
  replace HT := Lib.hid (Kp.keep HT.out h1)
  clear h1
  go_wp2_with fail
  go_ret
  exact ⟨rfl, HS.out⟩
set_option maxRecDepth 100000 in
set_option maxHeartbeats 4000000 in
theorem core_10 (no : Int) (k s : ByteArray) (h : ¬ 200 < k.size) (h2 : ¬ 500 < s.size) (X : ByteArray) (E : Int) (c1 : KMk Tabs 6 #[.int .i64 no, .string k] (.tuple #[.string X, .int .i64 E])) (hE : (E == 0) = true) (c2 : KMk Tabs 8 #[.string X] (.tuple #[.int .i64 no, .string k, .int .i64 0])) (c3 : KMk Tabs 10 #[.int .i64 no] (.int .i64 (X.size : Int))) (_b1 : (k.toList == k.toList) = true) (_b0 : (no != no) = false) (_b3 : ((X.size : Int) != (X.size : Int)) = false) (F : Int) (hF : (F != 0) = true) (c4 : KMk Tabs 8 #[.string s] (.tuple #[.int .i64 0, .string ⟨#[]⟩, .int .i64 F])) : KMk Tabs 4 #[.int .i64 no, .string k, .string s] (.bool true) := by
  have t1 : decide ((200 : Int) < (k.size : Int)) = false := decide_eq_false (by omega)
  have t2 : decide ((500 : Int) < (s.size : Int)) = false := decide_eq_false (by omega)
  clear h h2
  intro w hT
  have HT := Lib.hid hT
  have HS := Lib.hid (Since.refl w)
  have c9 := awake_k
  clear hT
  go_enter Tryz.func4, Tryz.ntmps4
  go_wp2_with fail
  refine c1.calls0 HT.out ?_
  intro w1 h1
  replace HS := Lib.hid (HS.out.step h1)
  replace HT := Lib.hid (Kp.keep HT.out h1)
  clear h1
  go_wp2_with fail
  refine c2.calls0 HT.out ?_
  intro w1 h1
  replace HS := Lib.hid (HS.out.step h1)
  replace HT := Lib.hid (Kp.keep HT.out h1)
  clear h1
  go_wp2_with fail
  refine c3.calls0 HT.out ?_
  intro w1 h1
  replace HS := Lib.hid (HS.out.step h1)
  replace HT := Lib.hid (Kp.keep HT.out h1)
  clear h1
  go_wp2_with fail
  refine c4.calls0 HT.out ?_
  intro w1 h1
  replace HS := Lib.hid (HS.out.step h1)
  replace HT := Lib.hid (Kp.keep HT.out h1)
  clear h1
  go_wp2_with fail
  refine c9.calls0 HT.out ?_
  intro w1 h1
  replace HS := Lib.hid (HS.out.step h1)
  replace HT := Lib.hid (Kp.keep HT.out h1)
  clear h1
  go_wp2_with fail
  go_ret
  exact ⟨rfl, HS.out⟩
set_option maxRecDepth 100000 in
set_option maxHeartbeats 4000000 in
theorem core_11 (no : Int) (k s : ByteArray) (h : ¬ 200 < k.size) (h2 : ¬ 500 < s.size) (X : ByteArray) (E : Int) (c1 : KMk Tabs 6 #[.int .i64 no, .string k] (.tuple #[.string X, .int .i64 E])) (hE : (E == 0) = true) (c2 : KMk Tabs 8 #[.string X] (.tuple #[.int .i64 no, .string k, .int .i64 0])) (c3 : KMk Tabs 10 #[.int .i64 no] (.int .i64 (X.size : Int))) (_b1 : (k.toList == k.toList) = true) (_b0 : (no != no) = false) (_b3 : ((X.size : Int) != (X.size : Int)) = false) (n : Int) (x : ByteArray) (c4 : KMk Tabs 8 #[.string s] (.tuple #[.int .i64 n, .string x, .int .i64 0])) (c5 : KMk Tabs 6 #[.int .i64 n, .string x] (.tuple #[.string s, .int .i64 0])) (_b2 : (s.toList == s.toList) = true) : KMk Tabs 4 #[.int .i64 no, .string k, .string s] (.bool true) := by
  have t1 : decide ((200 : Int) < (k.size : Int)) = false := decide_eq_false (by omega)
  have t2 : decide ((500 : Int) < (s.size : Int)) = false := decide_eq_false (by omega)
  clear h h2
  intro w hT
  have HT := Lib.hid hT
  have HS := Lib.hid (Since.refl w)
  have c9 := awake_k
  clear hT
  go_enter Tryz.func4, Tryz.ntmps4
  go_wp2_with fail
  refine c1.calls0 HT.out ?_
  intro w1 h1
  replace HS := Lib.hid (HS.out.step h1)
  replace HT := Lib.hid (Kp.keep HT.out h1)
  clear h1
  go_wp2_with fail
  refine c2.calls0 HT.out ?_
  intro w1 h1
  replace HS := Lib.hid (HS.out.step h1)
  replace HT := Lib.hid (Kp.keep HT.out h1)
  clear h1
  go_wp2_with fail
  refine c3.calls0 HT.out ?_
  intro w1 h1
  replace HS := Lib.hid (HS.out.step h1)
  replace HT := Lib.hid (Kp.keep HT.out h1)
  clear h1
  go_wp2_with fail
  refine c4.calls0 HT.out ?_
  intro w1 h1
  replace HS := Lib.hid (HS.out.step h1)
  replace HT := Lib.hid (Kp.keep HT.out h1)
  clear h1
  go_wp2_with fail
  refine c5.calls0 HT.out ?_
  intro w1 h1
  replace HS := Lib.hid (HS.out.step h1)
  replace HT := Lib.hid (Kp.keep HT.out h1)
  clear h1
  go_wp2_with fail
  refine c9.calls0 HT.out ?_
  intro w1 h1
  replace HS := Lib.hid (HS.out.step h1)
  replace HT := Lib.hid (Kp.keep HT.out h1)
  clear h1
  go_wp2_with fail
  go_ret
  exact ⟨rfl, HS.out⟩
set_option maxRecDepth 100000 in
theorem walk (no : Int) (k s : ByteArray) (_w0 : (Lit.int .i64 no).wf = true) (_w1 : k.size ≤ maxLen) (_w2 : s.size ≤ maxLen) (w : World) (hT : Tabs w) : Calls Tryz.prog 4 #[.int .i64 no, .string k, .string s] w fun e w' => e = .returned (.bool true) ∧ Below w.heap.size w w' := by
  by_cases h : 200 < k.size
  · exact core_big1 no k s h w hT
  by_cases h2 : 500 < s.size
  · exact core_big2 no k s h h2 w hT
  have c1 := encode_k no k (by omega) _ _ rfl rfl
  obtain ⟨n, x, e, hd, c4⟩ := decode_k s (by omega)
  have hf : e ≠ 0 ∧ n = 0 ∧ x = ⟨#[]⟩ ∨ e = 0 ∧ KMk Tabs 6 #[.int .i64 n, .string x] (.tuple #[.string s, .int .i64 0]) := by
    by_cases he : e = 0
    · obtain ⟨h3, h4⟩ := hd.good he
      have hx := chk_size n x h3
      exact .inr ⟨he, encode_k n x (by omega) s 0 h3.symm (by rw [if_pos rfl]; exact h4)⟩
    · exact .inl ⟨he, hd.bad he⟩
  by_cases hE : chkE no k = 0
  · have hX : (if chkE no k = 0 then derS no k else ⟨#[]⟩) = derS no k := if_pos hE
    rw [hX, hE] at c1
    obtain ⟨z1, z2, -⟩ := chk_zero no k hE
    have hw : (rowOf no).2.1 ≠ 0 := fun h9 => by
      unfold chkE at hE
      rw [if_pos h9] at hE
      cases hE
    have hks := chk_size no k hE
    have hl := key_le (nmOf no) k
    have hns := nm_size no
    have hds : (derS no k).size = (keyF (nmOf no) k).enc.length := size_bs _
    obtain ⟨n2, x2, e2, hd2, c2⟩ := decode_k (derS no k) (by omega)
    obtain ⟨rfl, rfl, rfl⟩ := hd2.back no k hE rfl
    have hsz : sizI n2 = ((derS n2 x2).size : Int) := by
      unfold sizI
      rw [if_neg hw, hds, key_len (nmOf n2) x2 (bs (List.replicate (rowOf n2).2.1.toNat 0)) (by rw [size_bs, List.length_replicate]; omega)]
    have c3 := size_k n2 _ hsz.symm
    rcases hf with ⟨h3, rfl, rfl⟩ | ⟨rfl, c5⟩
    · exact core_10 n2 x2 s h h2 _ 0 c1 rfl c2 c3 (beq_self_eq_true _) (bne_self_eq_false _) (bne_self_eq_false _) e (bne_iff_ne.2 h3) c4 w hT
    · exact core_11 n2 x2 s h h2 _ 0 c1 rfl c2 c3 (beq_self_eq_true _) (bne_self_eq_false _) (bne_self_eq_false _) n x c4 c5 (beq_self_eq_true _) w hT
  · rcases hf with ⟨h3, rfl, rfl⟩ | ⟨rfl, c5⟩
    · exact core_00 no k s h h2 _ _ c1 (beq_eq_false_iff_ne.2 hE) e (bne_iff_ne.2 h3) c4 w hT
    · exact core_01 no k s h h2 _ _ c1 (beq_eq_false_iff_ne.2 hE) n x c4 c5 (beq_self_eq_true _) w hT

set_option maxRecDepth 100000 in
theorem own : ownKnob Tryz.prog.godebug = none := by kernel_rfl

def laidL : List (String × DataW Unit) := [("unicode/utf8.acceptRanges", Rows.laid_unicode_utf8_acceptRanges), ("claviger/curve.lines", Rows.laid_claviger_curve_lines), ("unicode/utf8.first", Rows.laid_unicode_utf8_first)]
set_option maxRecDepth 100000 in
theorem lifted (os : Os) (started : os.Started) (H : Type) (enc : TypeId × Value → H) :
    ReturnsInHanded {} Tryz.checked os 4 .any (fun w args => (Rows.sec1BackSpec.pre enc Tryz.prog Tryz.f4 [] false w args ∧ laidMetH Tryz.prog laidL w) ∧ sizedMet enc Tryz.prog Tryz.f4 (OpenSpec.ofChange Rows.sec1BackSpec) false w args)
      (Rows.sec1BackSpec.post enc Tryz.prog Tryz.f4 false true false false) := by
  refine returnsInHanded_of_change_and (C := Tryz.checked) (X := fun w _ => laidMetH Tryz.prog laidL w) (fun _ _ _ hh h => h.of_heap hh) own started (by kernel_rfl) Tryz.func4
    (ChangeSpec.witness_shaped (enc := enc) (C := Tryz.checked) (os := os) (X := fun w _ => laidMetH Tryz.prog laidL w) false (World.laidAll Tryz.prog os laidL) #[.int .i64 0, .string ⟨#[]⟩, .string ⟨#[]⟩] 8 (World.laidAll_os _ _ _) (World.shaped_of_ZipB (by kernel_rfl) (by kernel_rfl)) (by kernel_rfl) (by kernel_rfl) (by kernel_rfl) (by rw [MakeChecks.laidMetH_plain _ _ _ (by kernel_rfl)]; exact laidMet_laidAll _ (by kernel_rfl) (by kernel_rfl))) ?_
  intro W base args ds gs before hval0 hW _ _ hL _
  have hval : ∀ (j : Nat) t v, Tryz.f4.params[j]? = some t → args[j]? = some v → Value.okWide Tryz.prog W .any base t v := hval0
  have hW' := hW
  obtain ⟨p, q, hA0, hV, rfl, hfz, hnd⟩ := hW
  have hA : DataW.TrodAll enc Tryz.prog W 0 (fun _ => true) true Tryz.f4.params.toList args.toList ds p := hA0
  rw [Tryz.params4] at hA hval
  obtain ⟨v0, vs0, d0, ds0, p0, q0, hargs, rfl, rfl, h0, r0⟩ := trodAll_cons hA
  obtain ⟨v1, vs1, d1, ds1, p1, q1, rfl, rfl, rfl, h1, r1⟩ := trodAll_cons r0
  obtain ⟨v2, vs2, d2, ds2, p2, q2, rfl, rfl, rfl, h2, r2⟩ := trodAll_cons r1
  obtain ⟨rfl, rfl, rfl⟩ := trodAll_nil r2
  obtain rfl : args = #[v0, v1, v2] := by cases args; simp_all
  obtain ⟨rfl, rfl⟩ := trodVars_none hV
  obtain ⟨a0, rfl, rfl, rfl, w0⟩ := open_int Tryz.underlying3 (hval 0 3 v0 rfl rfl) h0
  obtain ⟨a1, rfl, rfl, rfl, w1⟩ := Go.ChangeMaps.open_string Tryz.underlying9 (hval 1 9 v1 rfl rfl) h1
  obtain ⟨a2, rfl, rfl, rfl, w2⟩ := Go.ChangeMaps.open_string Tryz.underlying9 (hval 2 9 v2 rfl rfl) h2
  clear hA0 hval0
  simp only [List.append_nil] at hW'
  refine (walk a0 a1 a2 w0 w1 w2 W (Curve.tabs3_of hL)).mono fun e W' ⟨he, hg⟩ => ?_
  subst he
  exact ⟨_, rfl, _, _, _, _, _, [], hW', (trodAll_cons_mk (shut_bool Tryz.underlying4 _) trodAll_mk0), (trodAll_cons_mk (shut_int Tryz.underlying3 w0) (trodAll_cons_mk (Go.ChangeMaps.shut_string Tryz.underlying9 w1) (trodAll_cons_mk (Go.ChangeMaps.shut_string Tryz.underlying9 w2) trodAll_mk0))), rfl, hg.frame _, fun h => by cases h⟩

set_option maxRecDepth 100000 in
theorem over : Rows.sec1BackRow.holds Tryz.pinned (OpenSpec.ofChange Rows.sec1BackSpec) :=
  OpenClaim.holds_of_wide 4 Tryz.f4 rfl rfl rfl rfl rfl rfl rfl ⟨rfl, rfl, rfl, rfl, rfl⟩ rfl rfl rfl rfl rfl (by kernel_rfl) Tryz.func4 (by kernel_rfl)
    (of_decide_eq_true (by kernel_rfl)) (by unfold Func.isWrapper; first | (rw [if_pos (by decide +kernel)]; kernel_rfl) | (rw [if_neg (by decide +kernel)]; exact ⟨rfl, rfl⟩))
    (fun os started H enc _ => lifted os started H enc)

set_option maxRecDepth 100000 in
theorem proved : Rows.Sec1BackCardSaid :=
  Claim7.holds_tied_plain_at .later [] [.data, .data, .pinned] true Rows.sec1BackCard.stood.harness false
    over (fun _ h => by cases h) (by kernel_rfl) (fun _ h => by cases h) sec1Back_row_tie rfl ⟨rfl, rfl⟩ (by kernel_rfl) rfl
    (fun f fn hf hfn => by
      obtain rfl : f = 4 := Option.some.inj ((show Tryz.prog.funcNamed "claviger/clavigerlaw25.Sec1Back" = some 4 by kernel_rfl).symm.trans hf) |>.symm
      obtain rfl : fn = Tryz.f4 := (Option.some.inj (Tryz.func4.symm.trans hfn)).symm
      exact ⟨by kernel_rfl, fun j t ht => by
        rw [Tryz.params4] at ht
        have hm : t ∈ [3, 9, 9] := by simpa using Array.mem_of_getElem? ht
        have hall : ([3, 9, 9].all fun u => !Tryz.prog.wantsStandIn u) = true := by kernel_rfl
        exact (show Tryz.prog.wantsStandIn t = false by simpa using List.all_eq_true.1 hall t hm)⟩)
    (by kernel_rfl)

end Go.Proofs.YtpanhhjkecebkaaGreatDoor.sec1Back
