/- The law TlvWhole: of bytes that are read none can be left out at the end, and nothing can stand behind; no conditions. -/
import Derived.Test.YtihpndfjcgodiaaRows
import Derived.WalkKit
import Derived.ProofKit
import Derived.OpenShut
import Derived.Lib.Hide
import Derived.Lib.SmallJoins
import Derived.Test.YtihpndfjcgodiaaTv53
namespace Go.Proofs.Ytihpndfjcgodiaa.tlvWhole
open Go.ChangeShapes Go.WideShapes Go.ChangeAt Go.RowKit Tlv
/-- Decode's answer, but for the tree -/
def DecR (s : ByteArray) (C P : Int) : Prop := ∀ w, Calls Try.prog 11 #[.string s] w fun e w' => ∃ tv, e = .returned (.tuple #[tv, .agg (F2 C P)]) ∧ Since w w'
theorem dec_r (s : ByteArray) (hm : s.size ≤ maxLen) (c p : Nat) (N : List Nd) (S : List (Nat × Nat)) (ht : topV s = (c, p, N, S)) : DecR s (c : Int) (p : Int) := fun w => (dec_u s hm c p N S ht w).mono fun _ _ ⟨tv, h1, _, h2⟩ => ⟨tv, h1, h2⟩
theorem u16_of_wf {n : Int} (h : (Lit.int .u16 n).wf = true) : 0 ≤ n ∧ n ≤ 65535 := by
  simpa [Lit.wf, IntKind.min, IntKind.max, IntKind.signed, IntKind.bits] using h
set_option maxRecDepth 100000 in
set_option maxHeartbeats 2000000 in
theorem core_long (s more : ByteArray) (q : Int) (h : 500 < s.size ∨ s.size ≤ 500 ∧ 100 < more.size) (w : World) : Calls Try.prog 6 #[.string s, .string more, .int .u16 q] w fun e w' => e = .returned (.bool true) ∧ Since w w' := by
  have HS := Lib.hid (Since.refl w)
  rcases h with h1 | ⟨h1, h2⟩
  · have q1 : decide ((500 : Int) < (s.size : Int)) = true := decide_eq_true (by omega)
    clear h1
    go_enter Try.func6, Try.ntmps6
    go_wp2_with fail
    refine awake.calls0 ?_
    intro w1 h1
    replace HS := Lib.hid (HS.out.step h1)
    clear h1
    go_wp2_with fail
    go_ret
    exact ⟨rfl, HS.out⟩
  · have q1 : decide ((500 : Int) < (s.size : Int)) = false := decide_eq_false (by omega)
    have q2 : decide ((100 : Int) < (more.size : Int)) = true := decide_eq_true (by omega)
    clear h1 h2
    go_enter Try.func6, Try.ntmps6
    go_wp2_with fail
    refine awake.calls0 ?_
    intro w1 h1
    replace HS := Lib.hid (HS.out.step h1)
    clear h1
    go_wp2_with fail
    go_ret
    exact ⟨rfl, HS.out⟩
set_option maxRecDepth 100000 in
set_option maxHeartbeats 2000000 in
theorem core_no (s more : ByteArray) (q : Int) (h1 : s.size ≤ 500) (h2 : more.size ≤ 100) (C P : Int) (hC : (C != 0) = true) (c1 : DecR s C P) (w : World) : Calls Try.prog 6 #[.string s, .string more, .int .u16 q] w fun e w' => e = .returned (.bool true) ∧ Since w w' := by
  have q1 : decide ((500 : Int) < (s.size : Int)) = false := decide_eq_false (by omega)
  have q2 : decide ((100 : Int) < (more.size : Int)) = false := decide_eq_false (by omega)
  clear h1 h2
  go_enter Try.func6, Try.ntmps6
  go_wp2_with fail
  refine (c1 _).mono ?_
  rintro _ w1 ⟨tv, rfl, h1⟩
  have hp := hb_new w1 KT trivial (F2 C P) 27
  have HS := Lib.hid (Since.alloc h1 (.cells (F2 C P) 27))
  unfold F2 at hp HS ⊢
  have m0 := hp.cell 0 _ rfl
  clear h1 hp
  go_wp2_with fail
  refine awake.calls0 ?_
  intro w2 h2
  replace HS := Lib.hid (HS.out.step h2)
  clear h2 m0
  go_wp2_with fail
  go_ret
  exact ⟨rfl, HS.out⟩
set_option maxRecDepth 100000 in
set_option maxHeartbeats 4000000 in
theorem core_same (s : ByteArray) (q : Int) (hq0 : 0 ≤ q) (hq1 : q ≤ 65535) (h1 : s.size ≤ 500) (hs0 : 0 < s.size) (C2 P2 P3 : Int) (hC : (C2 != 0) = true) (c1 : DecR s 0 0) (c2 : DecR (s.extract 0 (q.toNat % s.size)) C2 P2) (c3 : DecR (s ++ ⟨#[]⟩) 0 P3) (w : World) :
    Calls Try.prog 6 #[.string s, .string ⟨#[]⟩, .int .u16 q] w fun e w' => e = .returned (.bool true) ∧ Since w w' := by
  obtain ⟨C3, hC3⟩ : ∃ C3 : Int, C3 = 0 := ⟨_, rfl⟩
  have hb3 : (C3 == 0) = true := by rw [hC3]; rfl
  rw [← hC3] at c3
  clear hC3
  have q1 : decide ((500 : Int) < (s.size : Int)) = false := decide_eq_false (by omega)
  have hne := ne_nil s hs0
  have hne2 := some_bytes_f s hs0
  obtain ⟨m, hm⟩ : ∃ m : Nat, m = q.toNat % s.size := ⟨_, rfl⟩
  have hml : m < s.size := by rw [hm]; exact Nat.mod_lt _ hs0
  have hqm : q.tmod (s.size : Int) = (m : Int) := by
    rw [Int.tmod_eq_emod_of_nonneg hq0, hm, Int.natCast_emod, Int.toNat_of_nonneg hq0]
  have hz : ((s.size : Int) == 0) = false := by rw [beq_eq_false_iff_ne]; omega
  have hml2 : (m : Int) ≤ (s.size : Int) := by omega
  have hml3 : (0 : Int) ≤ (m : Int) := by omega
  rw [← hm] at c2
  clear hm hs0
  go_enter Try.func6, Try.ntmps6
  go_wp2_with fail
  refine (c1 _).mono ?_
  rintro _ w1 ⟨tv1, rfl, h1⟩
  have hp := hb_new w1 KT trivial (F2 0 0) 27
  have HS := Lib.hid (Since.alloc h1 (.cells (F2 0 0) 27))
  unfold F2 at hp HS ⊢
  have m0 := hp.cell 0 _ rfl
  clear h1 hp
  go_wp2_with fail
  refine (c2 _).mono ?_
  rintro _ w2 ⟨tv2, rfl, h2⟩
  have hf := Lib.hid (show HR w w2.heap.size #[.int .i64 C2, .int .i64 P2] 27 (w2.alloc (.cells #[.int .i64 C2, .int .i64 P2] 27)) from ⟨heap_alloc_new w2 _⟩)
  replace HS := Lib.hid ((HS.out.step h2).alloc (.cells #[.int .i64 C2, .int .i64 P2] 27))
  clear h2 m0
  unfold F2
  go_wp2_with fail
  refine (c3 _).mono ?_
  rintro _ w3 ⟨tv3, rfl, h3⟩
  replace hf := Lib.hid (hr_old (hf.out.step h3) (.cells #[.int .i64 C3, .int .i64 P3] 27))
  have hg := Lib.hid (show HR w w3.heap.size #[.int .i64 C3, .int .i64 P3] 27 (w3.alloc (.cells #[.int .i64 C3, .int .i64 P3] 27)) from ⟨heap_alloc_new w3 _⟩)
  replace HS := Lib.hid ((HS.out.step h3).alloc (.cells #[.int .i64 C3, .int .i64 P3] 27))
  clear h3
  have f0 := hr_cell hf.out 0 _ rfl
  have g0 := hr_cell hg.out 0 _ rfl
  have g1 := hr_cell hg.out 1 _ rfl
  unfold F2
  go_wp2_with fail
  refine awake.calls0 ?_
  intro w4 h4
  replace HS := Lib.hid (HS.out.step h4)
  clear h4 f0 g0 g1 hf hg
  go_wp2_with fail
  go_ret
  exact ⟨rfl, HS.out⟩
set_option maxRecDepth 100000 in
set_option maxHeartbeats 4000000 in
theorem core_more (s more : ByteArray) (q : Int) (hq0 : 0 ≤ q) (hq1 : q ≤ 65535) (h1 : s.size ≤ 500) (hs0 : 0 < s.size) (hm0 : 0 < more.size) (hm1 : more.size ≤ 100) (C2 P2 : Int) (hC : (C2 != 0) = true) (c1 : DecR s 0 0) (c2 : DecR (s.extract 0 (q.toNat % s.size)) C2 P2) (c3 : DecR (s ++ more) 5 (s.size : Int)) (w : World) :
    Calls Try.prog 6 #[.string s, .string more, .int .u16 q] w fun e w' => e = .returned (.bool true) ∧ Since w w' := by
  have q2 : decide ((100 : Int) < (more.size : Int)) = false := decide_eq_false (by omega)
  have hmn := ne_nil more hm0
  have hmn2 := some_bytes_f more hm0
  obtain ⟨C3, hC3⟩ : ∃ C3 : Int, C3 = 5 := ⟨_, rfl⟩
  obtain ⟨P3, hP3⟩ : ∃ P3 : Int, P3 = (s.size : Int) := ⟨_, rfl⟩
  have hb3 : (C3 == 0) = false := by rw [hC3]; rfl
  have hb4 : (C3 == 5) = true := by rw [hC3]; rfl
  have hb5 : (P3 == (s.size : Int)) = true := by rw [hP3]; exact beq_self_eq_true _
  rw [← hC3, ← hP3] at c3
  clear hC3 hP3 hm0
  have q1 : decide ((500 : Int) < (s.size : Int)) = false := decide_eq_false (by omega)
  have hne := ne_nil s hs0
  have hne2 := some_bytes_f s hs0
  obtain ⟨m, hm⟩ : ∃ m : Nat, m = q.toNat % s.size := ⟨_, rfl⟩
  have hml : m < s.size := by rw [hm]; exact Nat.mod_lt _ hs0
  have hqm : q.tmod (s.size : Int) = (m : Int) := by
    rw [Int.tmod_eq_emod_of_nonneg hq0, hm, Int.natCast_emod, Int.toNat_of_nonneg hq0]
  have hz : ((s.size : Int) == 0) = false := by rw [beq_eq_false_iff_ne]; omega
  have hml2 : (m : Int) ≤ (s.size : Int) := by omega
  have hml3 : (0 : Int) ≤ (m : Int) := by omega
  rw [← hm] at c2
  clear hm hs0
  go_enter Try.func6, Try.ntmps6
  go_wp2_with fail
  refine (c1 _).mono ?_
  rintro _ w1 ⟨tv1, rfl, h1⟩
  have hp := hb_new w1 KT trivial (F2 0 0) 27
  have HS := Lib.hid (Since.alloc h1 (.cells (F2 0 0) 27))
  unfold F2 at hp HS ⊢
  have m0 := hp.cell 0 _ rfl
  clear h1 hp
  go_wp2_with fail
  refine (c2 _).mono ?_
  rintro _ w2 ⟨tv2, rfl, h2⟩
  have hf := Lib.hid (show HR w w2.heap.size #[.int .i64 C2, .int .i64 P2] 27 (w2.alloc (.cells #[.int .i64 C2, .int .i64 P2] 27)) from ⟨heap_alloc_new w2 _⟩)
  replace HS := Lib.hid ((HS.out.step h2).alloc (.cells #[.int .i64 C2, .int .i64 P2] 27))
  clear h2 m0
  unfold F2
  go_wp2_with fail
  refine (c3 _).mono ?_
  rintro _ w3 ⟨tv3, rfl, h3⟩
  replace hf := Lib.hid (hr_old (hf.out.step h3) (.cells #[.int .i64 C3, .int .i64 P3] 27))
  have hg := Lib.hid (show HR w w3.heap.size #[.int .i64 C3, .int .i64 P3] 27 (w3.alloc (.cells #[.int .i64 C3, .int .i64 P3] 27)) from ⟨heap_alloc_new w3 _⟩)
  replace HS := Lib.hid ((HS.out.step h3).alloc (.cells #[.int .i64 C3, .int .i64 P3] 27))
  clear h3
  have f0 := hr_cell hf.out 0 _ rfl
  have g0 := hr_cell hg.out 0 _ rfl
  have g1 := hr_cell hg.out 1 _ rfl
  unfold F2
  go_wp2_with fail
  refine awake.calls0 ?_
  intro w4 h4
  replace HS := Lib.hid (HS.out.step h4)
  clear h4 f0 g0 g1 hf hg
  go_wp2_with fail
  go_ret
  exact ⟨rfl, HS.out⟩
theorem dec_top (s : ByteArray) (hm : s.size ≤ 9000000) {c p : Nat} (h : top Strs.rightB s = .error (c, p)) : DecR s (c : Int) (p : Int) := dec_r s (by unfold maxLen; omega) c p [] [] (by unfold topV; rw [h])
theorem dec_topk (s : ByteArray) (hm : s.size ≤ 9000000) {g : F} (h : top Strs.rightB s = .ok g) : DecR s 0 0 := dec_r s (by unfold maxLen; omega) 0 0 (g.flat 0) (g.spans 0) (by unfold topV; rw [h])
set_option maxRecDepth 100000 in
theorem walk (a0 a1 : ByteArray) (a2 : Int) (_w0 : a0.size ≤ maxLen) (_w1 : a1.size ≤ maxLen) (w2 : (Lit.int .u16 a2).wf = true) (w : World) : Calls Try.prog 6 #[.string a0, .string a1, .int .u16 a2] w fun e w' => e = .returned (.bool true) ∧ Below w.heap.size w w' := by
  obtain ⟨b1, b2⟩ := u16_of_wf w2
  by_cases h1 : 500 < a0.size
  · exact core_long _ _ _ (.inl h1) w
  by_cases h2 : 100 < a1.size
  · exact core_long _ _ _ (.inr ⟨by omega, h2⟩) w
  have h1' : a0.size ≤ 500 := by omega
  have h2' : a1.size ≤ 100 := by omega
  cases ht : top Strs.rightB a0 with
  | error x =>
    obtain ⟨c, p⟩ := x
    have h3 := (top_err_ok ht).1
    exact core_no a0 a1 a2 h1' h2' (c : Int) (p : Int) (by rw [bne_iff_ne]; omega) (dec_top a0 (by omega) ht) w
  | ok g =>
    have h0 := (top_some ht).1
    have hml : a2.toNat % a0.size < a0.size := Nat.mod_lt _ h0
    obtain ⟨⟨c, p⟩, hl⟩ := top_less ht (a2.toNat % a0.size) hml (by omega)
    have h3 := (top_err_ok hl).1
    have c2 := dec_top _ (by rw [ByteArray.size_extract]; omega) hl
    have hC : ((c : Int) != 0) = true := by rw [bne_iff_ne]; omega
    have c1 := dec_topk a0 (by omega) ht
    by_cases hm : a1.size = 0
    · obtain rfl : a1 = ⟨#[]⟩ := by
        apply ByteArray.ext
        exact Array.eq_empty_of_size_eq_zero hm
      have e1 : a0 ++ ⟨#[]⟩ = a0 := by apply ByteArray.ext; simp
      exact core_same a0 a2 b1 b2 h1' h0 _ _ 0 hC c1 c2 (by rw [e1]; exact c1) w
    · have hs2 : (a0 ++ a1).size = a0.size + a1.size := by simp
      exact core_more a0 a1 a2 b1 b2 h1' h0 (by omega) h2' _ _ hC c1 c2 (dec_top (a0 ++ a1) (by omega) (top_more ht (by omega) (by omega))) w

set_option maxRecDepth 100000 in
theorem own : ownKnob Try.prog.godebug = none := by kernel_rfl

set_option maxRecDepth 100000 in
theorem lifted (os : Os) (started : os.Started) (H : Type) (enc : TypeId × Value → H) :
    ReturnsInHanded {} Try.checked os 6 .any (Rows.tlvWholeSpec.pre6 enc Try.prog Try.f6 Rows.tlvWholeRow.domain false) (Rows.tlvWholeSpec.post enc Try.prog Try.f6 false true false false) := by
  refine returnsInHanded_of_change (C := Try.checked) own started (by kernel_rfl) Try.func6
    (ChangeSpec.witness6 (enc := enc) (C := Try.checked) false ⟨#[], #[.string ⟨#[]⟩, .string ⟨#[]⟩, .int .u16 0], []⟩ 8 (by kernel_rfl) (by kernel_rfl) (by kernel_rfl) (by kernel_rfl)) ?_
  intro W base args ds gs before hval0 hW hcnd _
  have hval : ∀ (j : Nat) t v, Try.f6.params[j]? = some t → args[j]? = some v → Value.okWide Try.prog W .any base t v := hval0
  have hW' := hW
  obtain ⟨p, q, hA0, hV, rfl, hfz, hnd⟩ := hW
  have hA : DataW.TrodAll enc Try.prog W 0 (fun _ => true) true Try.f6.params.toList args.toList ds p := hA0
  rw [Try.params6] at hA hval
  obtain ⟨v0, vs0, d0, ds0, p0, q0, hargs, rfl, rfl, h0, r0⟩ := trodAll_cons hA
  obtain ⟨v1, vs1, d1, ds1, p1, q1, rfl, rfl, rfl, h1, r1⟩ := trodAll_cons r0
  obtain ⟨v2, vs2, d2, ds2, p2, q2, rfl, rfl, rfl, h2, r2⟩ := trodAll_cons r1
  obtain ⟨rfl, rfl, rfl⟩ := trodAll_nil r2
  obtain rfl : args = #[v0, v1, v2] := by cases args; simp_all
  obtain ⟨rfl, rfl⟩ := trodVars_none hV
  obtain ⟨a0, rfl, rfl, rfl, w0⟩ := Go.ChangeMaps.open_string Try.underlying9 (hval 0 9 v0 rfl rfl) h0
  obtain ⟨a1, rfl, rfl, rfl, w1⟩ := Go.ChangeMaps.open_string Try.underlying9 (hval 1 9 v1 rfl rfl) h1
  obtain ⟨a2, rfl, rfl, rfl, w2⟩ := open_int Try.underlying46 (hval 2 46 v2 rfl rfl) h2
  clear hA0 hval0
  simp only [List.append_nil] at hW'
  refine (walk a0 a1 a2 w0 w1 w2 W).mono fun e W' ⟨he, hg⟩ => ?_
  subst he
  exact ⟨_, rfl, _, _, _, _, _, [], hW', (trodAll_cons_mk (shut_bool Try.underlying4 _) trodAll_mk0), (trodAll_cons_mk (Go.ChangeMaps.shut_string Try.underlying9 w0) (trodAll_cons_mk (Go.ChangeMaps.shut_string Try.underlying9 w1) (trodAll_cons_mk (shut_int Try.underlying46 w2) trodAll_mk0))), rfl, hg.frame _, fun h => by cases h⟩

set_option maxRecDepth 100000 in
theorem over : Rows.tlvWholeRow.holds Try.pinned (OpenSpec.ofChange Rows.tlvWholeSpec) :=
  OpenClaim.holds_of_wide 6 Try.f6 rfl rfl rfl rfl rfl rfl rfl ⟨rfl, rfl, rfl, rfl, rfl⟩ rfl rfl rfl rfl rfl (by kernel_rfl) Try.func6 (by kernel_rfl)
    (of_decide_eq_true (by kernel_rfl)) (by unfold Func.isWrapper; first | (rw [if_pos (by decide +kernel)]; kernel_rfl) | (rw [if_neg (by decide +kernel)]; exact ⟨rfl, rfl⟩))
    (fun os started H enc _ => lifted os started H enc)

theorem proved : Rows.TlvWholeSaid :=
  over

end Go.Proofs.Ytihpndfjcgodiaa.tlvWhole
