/- The law TlvTells: any bytes are the tree, or have the fault, that the document says, with the places of elements; no conditions. -/
import Derived.Test.YtihpndfjcgodiaaRows
import Derived.WalkKit
import Derived.ProofKit
import Derived.OpenShut
import Derived.Lib.Hide
import Derived.Lib.SmallJoins
import Derived.Test.YtihpndfjcgodiaaTw52
import Derived.Test.YtihpndfjcgodiaaTw54
import Derived.Test.YtihpndfjcgodiaaTw55
namespace Go.Proofs.Ytihpndfjcgodiaa.tlvTells
open Go.ChangeShapes Go.WideShapes Go.ChangeAt Go.RowKit Tlv
open Span (Sp)
open Flt (fl)
def DecT (f : Nat) (s : ByteArray) (C P : Int) (N : List Nd) : Prop := ∀ w, Calls Try.prog f #[.string s] w fun e w' => ∃ tv, e = .returned (.tuple #[tv, .agg (F2 C P)]) ∧ TreeS w' tv N ∧ Since w w'
def SpaT (s : ByteArray) (S : List (Nat × Nat)) : Prop := ∀ w, Calls Try.prog 13 #[.string s] w fun e w' => ∃ sv, e = .returned sv ∧ Tlv.SpansS w' sv S ∧ Since w w'
def SpaR (s : ByteArray) (S : List (Nat × Nat)) : Prop := ∀ w, Calls Try.prog 14 #[.string s] w fun e w' => ∃ a b, e = .returned (.tuple #[a, b]) ∧ IntsS w' a ((S.map Prod.fst).map (fun i : Nat => (i : Int))) ∧ IntsS w' b ((S.map Prod.snd).map (fun i : Nat => (i : Int))) ∧ Since w w'
set_option maxRecDepth 100000 in
set_option maxHeartbeats 2000000 in
theorem core_long (s : ByteArray) (h : 2000 < s.size) (w : World) : Calls Try.prog 3 #[.string s] w fun e w' => e = .returned (.bool true) ∧ Since w w' := by
  have HS := Lib.hid (Since.refl w)
  have q1 : decide ((2000 : Int) < (s.size : Int)) = true := decide_eq_true (by omega)
  clear h
  go_enter Try.func3, Try.ntmps3
  go_wp2_with fail
  refine awake.calls0 ?_
  intro w1 h1
  replace HS := Lib.hid (HS.out.step h1)
  clear h1
  go_wp2_with fail
  go_ret
  exact ⟨rfl, HS.out⟩
set_option maxRecDepth 100000 in
set_option maxHeartbeats 8000000 in
theorem core (s : ByteArray) (h : s.size ≤ 2000) (N : List Nd) (S : List (Nat × Nat)) (C P : Int) (hS : S.length ≤ 100000) (hp : ∀ p ∈ S, Sp p.1 p.2)
    (c1 : DecT 11 s C P N) (c2 : DecT 12 s C P N) (c3 : SpaT s S) (c4 : SpaR s S) (c5 : SameT N) (w : World) : Calls Try.prog 3 #[.string s] w fun e w' => e = .returned (.bool true) ∧ Since w w' := by
  have q1 : decide ((2000 : Int) < (s.size : Int)) = false := decide_eq_false (by omega)
  have HP := Lib.hid hp
  have HSl := Lib.hid hS
  clear h hp hS
  go_enter Try.func3, Try.ntmps3
  go_wp2_with fail
  refine (c1 _).mono ?_
  rintro _ w1 ⟨tv, rfl, hT, h1⟩
  have hf := Lib.hid (show HR w w1.heap.size #[.int .i64 C, .int .i64 P] 27 (w1.alloc (.cells #[.int .i64 C, .int .i64 P] 27)) from ⟨heap_alloc_new w1 _⟩)
  have HS := Lib.hid (Since.alloc h1 (.cells #[.int .i64 C, .int .i64 P] 27))
  have HT := Lib.hid (hT.since ((Since.refl w1).alloc (.cells #[.int .i64 C, .int .i64 P] 27)))
  unfold F2
  clear h1 hT c1
  go_wp2_with fail
  refine (c2 _).mono ?_
  rintro _ w2 ⟨uv, rfl, hU, h2⟩
  have hg := Lib.hid (show HR w w2.heap.size #[.int .i64 C, .int .i64 P] 27 (w2.alloc (.cells #[.int .i64 C, .int .i64 P] 27)) from ⟨heap_alloc_new w2 _⟩)
  replace hf := Lib.hid ((hf.out.step h2).step ((Since.refl w2).alloc (.cells #[.int .i64 C, .int .i64 P] 27)))
  replace HS := Lib.hid ((HS.out.step h2).alloc (.cells #[.int .i64 C, .int .i64 P] 27))
  replace HT := Lib.hid ((HT.out.since h2).since ((Since.refl w2).alloc (.cells #[.int .i64 C, .int .i64 P] 27)))
  have HU := Lib.hid (hU.since ((Since.refl w2).alloc (.cells #[.int .i64 C, .int .i64 P] 27)))
  unfold F2
  clear h2 hU c2
  go_wp2_with fail
  refine (c3 _).mono ?_
  rintro _ w3 ⟨sv, rfl, hP3, h3⟩
  replace hf := Lib.hid (hf.out.step h3)
  replace hg := Lib.hid (hg.out.step h3)
  replace HS := Lib.hid (HS.out.step h3)
  replace HT := Lib.hid (HT.out.since h3)
  replace HU := Lib.hid (HU.out.since h3)
  have HPv := Lib.hid hP3
  clear h3 hP3 c3
  go_wp2_with fail
  refine (c4 _).mono ?_
  rintro _ w4 ⟨fa, fb, rfl, hA, hB, h4⟩
  replace hf := Lib.hid (hf.out.step h4)
  replace hg := Lib.hid (hg.out.step h4)
  replace HS := Lib.hid (HS.out.step h4)
  replace HT := Lib.hid (HT.out.since h4)
  replace HU := Lib.hid (HU.out.since h4)
  replace HPv := Lib.hid (HPv.out.since h4)
  have HA := Lib.hid hA
  have HB := Lib.hid hB
  clear h4 hA hB c4
  go_wp2_with fail
  refine (c5 _ _ _ HT.out HU.out).mono ?_
  rintro _ w5 ⟨rfl, h5⟩
  replace hf := Lib.hid (hf.out.step h5)
  replace hg := Lib.hid (hg.out.step h5)
  replace HS := Lib.hid (HS.out.step h5)
  replace HPv := Lib.hid (HPv.out.since h5)
  replace HA := Lib.hid (HA.out.since h5)
  replace HB := Lib.hid (HB.out.since h5)
  have f0 := hr_cell hf.out 0 _ rfl
  have f1 := hr_cell hf.out 1 _ rfl
  have g0 := hr_cell hg.out 0 _ rfl
  have g1 := hr_cell hg.out 1 _ rfl
  have e1 : ((S.map Prod.fst).map (fun i : Nat => (i : Int))).length = S.length := by rw [List.length_map, List.length_map]
  have e2 : ((S.map Prod.snd).map (fun i : Nat => (i : Int))).length = S.length := by rw [List.length_map, List.length_map]
  clear h5 HT HU hf hg c5
  obtain ⟨A1, d1, hsv, -, -⟩ := HPv.out.slice
  obtain ⟨A2, d2, hfa, -, -⟩ := HA.out.slice
  obtain ⟨A3, d3, hfb, -, -⟩ := HB.out.slice
  rw [e1] at hfa
  rw [e2] at hfb
  subst hsv hfa hfb
  have n1 : ((S.length : Int) != (S.length : Int)) = false := bne_self_eq_false _
  clear e1 e2
  go_wp2_with fail
  clear f0 f1 g0 g1
  go_loopw [10] (fun i wr => ∃ k : Nat, k ≤ S.length ∧ i = .int .i64 (k : Int) ∧ Hid (Since w5 wr)) (fun i _ => S.length - (intOf i).toNat)
  case atStart => exact ⟨0, Nat.zero_le _, rfl, Lib.hid (Since.refl _)⟩
  case round =>
    obtain ⟨k, hk, rfl, HW⟩ := hrel
    have hSl := HSl.out
    by_cases hlt : k < S.length
    · obtain ⟨⟨u, v⟩, hx⟩ : ∃ x, S[k]? = some x := ⟨_, List.getElem?_eq_getElem hlt⟩
      have hsp := HP.out (u, v) (List.mem_iff_getElem?.2 ⟨k, hx⟩)
      obtain ⟨b1, o1, c1, hv1, -, -, l1, r1⟩ := HPv.out.form (by omega)
      obtain ⟨rfl, -, rfl⟩ := Value.slice.inj hv1
      obtain ⟨b2, o2, c2, hv2, -, -, l2, r2⟩ := HA.out.form (by rw [List.length_map, List.length_map]; omega)
      obtain ⟨rfl, -, rfl⟩ := Value.slice.inj hv2
      obtain ⟨b3, o3, c3, hv3, -, -, l3, r3⟩ := HB.out.form (by rw [List.length_map, List.length_map]; omega)
      obtain ⟨rfl, -, rfl⟩ := Value.slice.inj hv3
      have m1 := (Below.cell HW.out (p := ⟨b1, o1 + k, none⟩) l1).trans (r1 k _ hx)
      have m2 := (Below.cell HW.out (p := ⟨b2, o2 + k, none⟩) l2).trans (r2 k (by rw [List.length_map, List.length_map]; omega))
      have m3 := (Below.cell HW.out (p := ⟨b3, o3 + k, none⟩) l3).trans (r3 k (by rw [List.length_map, List.length_map]; omega))
      rw [show ((S.map Prod.fst).map (fun i : Nat => (i : Int))).getD k 0 = (u : Int) by simp [List.getD, hx]] at m2
      rw [show ((S.map Prod.snd).map (fun i : Nat => (i : Int))).getD k 0 = (v : Int) by simp [List.getD, hx]] at m3
      dsimp only at m1 hsp
      have i1 := Lib.hid (Span.of_yes u v hsp)
      have s1 := hsp.1
      have s2 := hsp.2
      have o0 : FloatKind.f64.format.order (fl (u : Int)) (fl (u : Int)) = some .eq := by rw [Flt.order_fl _ _ (by omega) (by omega)]; simp
      have o1' : FloatKind.f64.format.order (fl (v : Int)) (fl (v : Int)) = some .eq := by rw [Flt.order_fl _ _ (by omega) (by omega)]; simp
      have t3 : decide ((k : Int) < (S.length : Int)) = true := decide_eq_true (by omega)
      have t4 : decide (k < S.length) = true := decide_eq_true hlt
      have b5 : (0 : Int) ≤ (k : Int) := by omega
      have b6 : (k : Int) < (S.length : Int) := by omega
      clear hx r1 r2 r3 hv1 hv2 hv3 hsp s1 s2
      go_wp2_with fail
      go_quiet ((go_at_call 16; exact Calls.quiet_of_same (stillQ i1.out _)))
      have HW2 : Hid (Since w5 (wr.drewN nq)) := Lib.hid (HW.out.step (belowQ _ nq))
      clear m1 m2 m3
      go_wp2_with fail
      go_roundw
      case rel => exact ⟨k + 1, by omega, by go_num, HW2⟩
      case measure => simp [intOf]; omega
    · obtain rfl : k = S.length := by omega
      replace HS := Lib.hid (HS.out.step HW.out)
      go_wp2_with fail
      refine awake.calls0 ?_
      intro w6 h6
      replace HS := Lib.hid (HS.out.step h6)
      clear h6
      go_wp2_with fail
      go_ret
      exact ⟨rfl, HS.out⟩
set_option maxRecDepth 100000 in
theorem walk (a0 : ByteArray) (_w0 : a0.size ≤ maxLen) (w : World) : Calls Try.prog 3 #[.string a0] w fun e w' => e = .returned (.bool true) ∧ Below w.heap.size w w' := by
  by_cases h1 : 2000 < a0.size
  · exact core_long _ h1 w
  have h1' : a0.size ≤ 2000 := by omega
  cases ht : top Strs.rightB a0 with
  | error x =>
    obtain ⟨c, p⟩ := x
    have hv : topV a0 = (c, p, [], []) := by unfold topV; rw [ht]
    exact core a0 h1' [] [] (c : Int) (p : Int) (by simp) (by simp) (dec_u a0 _w0 c p _ _ hv) (rdec_u a0 c p _ _ hv) (spans_u a0 _w0 c p _ _ hv) (rspans_u a0 c p _ _ hv) same_nil w
  | ok g =>
    have hv : topV a0 = (0, 0, g.flat 0, g.spans 0) := by unfold topV; rw [ht]
    obtain ⟨e1, e2, e3⟩ := top_first ht
    have hc := cnt_enc g
    have hl1 : (g.spans 0).length = (g.flat 0).length := by rw [F.spans_len, F.flat_len]
    refine core a0 h1' (g.flat 0) (g.spans 0) 0 0 (by rw [F.spans_len]; omega) ?_ (dec_u a0 _w0 0 0 _ _ hv) (rdec_u a0 0 0 _ _ hv) (spans_u a0 _w0 0 0 _ _ hv) (rspans_u a0 0 0 _ _ hv) (same_t _ (by rw [F.flat_len]; omega)) w
    intro p hp
    obtain ⟨j, hj⟩ := List.mem_iff_getElem?.1 hp
    have hj2 : j < (g.flat 0).length := by rw [← hl1]; exact (List.getElem?_eq_some_iff.1 hj).1
    obtain ⟨uj, vj, a1, a2, a3, a4, -⟩ := kids_at g 0 0 j _ (List.getElem?_eq_getElem hj2)
    rw [hj] at a1
    cases a1
    rw [e2] at a4
    exact ⟨a3, by show _ ≤ _; omega⟩

set_option maxRecDepth 100000 in
theorem own : ownKnob Try.prog.godebug = none := by kernel_rfl

set_option maxRecDepth 100000 in
theorem lifted (os : Os) (started : os.Started) (H : Type) (enc : TypeId × Value → H) :
    ReturnsInHanded {} Try.checked os 3 .any (Rows.tlvTellsSpec.pre6 enc Try.prog Try.f3 Rows.tlvTellsRow.domain false) (Rows.tlvTellsSpec.post enc Try.prog Try.f3 false true false false) := by
  refine returnsInHanded_of_change (C := Try.checked) own started (by kernel_rfl) Try.func3
    (ChangeSpec.witness6 (enc := enc) (C := Try.checked) false ⟨#[], #[.string ⟨#[]⟩], []⟩ 8 (by kernel_rfl) (by kernel_rfl) (by kernel_rfl) (by kernel_rfl)) ?_
  intro W base args ds gs before hval0 hW hcnd _
  have hval : ∀ (j : Nat) t v, Try.f3.params[j]? = some t → args[j]? = some v → Value.okWide Try.prog W .any base t v := hval0
  have hW' := hW
  obtain ⟨p, q, hA0, hV, rfl, hfz, hnd⟩ := hW
  have hA : DataW.TrodAll enc Try.prog W 0 (fun _ => true) true Try.f3.params.toList args.toList ds p := hA0
  rw [Try.params3] at hA hval
  obtain ⟨v0, vs0, d0, ds0, p0, q0, hargs, rfl, rfl, h0, r0⟩ := trodAll_cons hA
  obtain ⟨rfl, rfl, rfl⟩ := trodAll_nil r0
  obtain rfl : args = #[v0] := by cases args; simp_all
  obtain ⟨rfl, rfl⟩ := trodVars_none hV
  obtain ⟨a0, rfl, rfl, rfl, w0⟩ := Go.ChangeMaps.open_string Try.underlying9 (hval 0 9 v0 rfl rfl) h0
  clear hA0 hval0
  simp only [List.append_nil] at hW'
  refine (walk a0 w0 W).mono fun e W' ⟨he, hg⟩ => ?_
  subst he
  exact ⟨_, rfl, _, _, _, _, _, [], hW', (trodAll_cons_mk (shut_bool Try.underlying4 _) trodAll_mk0), (trodAll_cons_mk (Go.ChangeMaps.shut_string Try.underlying9 w0) trodAll_mk0), rfl, hg.frame _, fun h => by cases h⟩

set_option maxRecDepth 100000 in
theorem over : Rows.tlvTellsRow.holds Try.pinned (OpenSpec.ofChange Rows.tlvTellsSpec) :=
  OpenClaim.holds_of_wide 3 Try.f3 rfl rfl rfl rfl rfl rfl rfl ⟨rfl, rfl, rfl, rfl, rfl⟩ rfl rfl rfl rfl rfl (by kernel_rfl) Try.func3 (by kernel_rfl)
    (of_decide_eq_true (by kernel_rfl)) (by unfold Func.isWrapper; first | (rw [if_pos (by decide +kernel)]; kernel_rfl) | (rw [if_neg (by decide +kernel)]; exact ⟨rfl, rfl⟩))
    (fun os started H enc _ => lifted os started H enc)

theorem proved : Rows.TlvTellsSaid :=
  over

end Go.Proofs.Ytihpndfjcgodiaa.tlvTells
