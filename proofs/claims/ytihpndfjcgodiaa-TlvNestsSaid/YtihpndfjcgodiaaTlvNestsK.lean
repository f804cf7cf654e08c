/- The law TlvNests: elements are inside what they stand in, and apart from one another; what is read is read, whole, as one piece; no conditions. -/
import Derived.Test.YtihpndfjcgodiaaRows
import Derived.WalkKit
import Derived.ProofKit
import Derived.OpenShut
import Derived.Lib.Hide
import Derived.Lib.SmallJoins
import Derived.Test.YtihpndfjcgodiaaTv53
namespace Go.Proofs.Ytihpndfjcgodiaa.tlvNests
open Go.ChangeShapes Go.WideShapes Go.ChangeAt Go.RowKit Tlv
open Span (Sp)
open Flt (fl)
def DecT (s : ByteArray) (C P : Int) (N : List Nd) : Prop := ∀ w, Calls Try.prog 11 #[.string s] w fun e w' => ∃ tv, e = .returned (.tuple #[tv, .agg (F2 C P)]) ∧ TreeS w' tv N ∧ Since w w'
def SpaT (s : ByteArray) (S : List (Nat × Nat)) : Prop := ∀ w, Calls Try.prog 13 #[.string s] w fun e w' => ∃ sv, e = .returned sv ∧ Tlv.SpansS w' sv S ∧ Since w w'
set_option maxRecDepth 100000 in
set_option maxHeartbeats 2000000 in
theorem core_long (s : ByteArray) (h : 500 < s.size) (w : World) : Calls Try.prog 5 #[.string s] w fun e w' => e = .returned (.bool true) ∧ Since w w' := by
  have HS := Lib.hid (Since.refl w)
  have q1 : decide ((500 : Int) < (s.size : Int)) = true := decide_eq_true (by omega)
  clear h
  go_enter Try.func5, Try.ntmps5
  go_wp2_with fail
  refine awake.calls0 ?_
  intro w1 h1
  replace HS := Lib.hid (HS.out.step h1)
  clear h1
  go_wp2_with fail
  go_ret
  exact ⟨rfl, HS.out⟩
set_option maxRecDepth 100000 in
set_option maxHeartbeats 4000000 in
theorem core_no (s : ByteArray) (h : s.size ≤ 500) (C P : Int) (hC : (C != 0) = true) (hp0 : 0 ≤ P) (hp1 : P ≤ (s.size : Int)) (c1 : DecT s C P []) (c2 : SpaT s []) (w : World) : Calls Try.prog 5 #[.string s] w fun e w' => e = .returned (.bool true) ∧ Since w w' := by
  have q1 : decide ((500 : Int) < (s.size : Int)) = false := decide_eq_false (by omega)
  have q2 : decide ((0 : Int) ≤ P) = true := decide_eq_true hp0
  have q3 : decide (P ≤ (s.size : Int)) = true := decide_eq_true hp1
  clear h
  go_enter Try.func5, Try.ntmps5
  go_wp2_with fail
  refine (c1 _).mono ?_
  rintro _ w1 ⟨tv, rfl, hT, h1⟩
  have hf := Lib.hid (show HR w w1.heap.size #[.int .i64 C, .int .i64 P] 27 (w1.alloc (.cells #[.int .i64 C, .int .i64 P] 27)) from ⟨heap_alloc_new w1 _⟩)
  have HS := Lib.hid (Since.alloc h1 (.cells #[.int .i64 C, .int .i64 P] 27))
  have HT := Lib.hid (hT.since ((Since.refl w1).alloc (.cells #[.int .i64 C, .int .i64 P] 27)))
  unfold F2
  clear h1 hT c1
  go_wp2_with fail
  refine (c2 _).mono ?_
  rintro _ w2 ⟨sv, rfl, hP, h2⟩
  replace hf := Lib.hid (hf.out.step h2)
  replace HS := Lib.hid (HS.out.step h2)
  replace HT := Lib.hid (HT.out.since h2)
  have HP := Lib.hid hP
  have f0 := hr_cell hf.out 0 _ rfl
  have f1 := hr_cell hf.out 1 _ rfl
  clear hP h2 c2
  obtain ⟨A, a, rfl, -, -⟩ := HT.out.slice
  obtain ⟨B, b, rfl, -, -⟩ := HP.out.slice
  go_wp2_with fail
  refine awake.calls0 ?_
  intro w4 h4
  replace HS := Lib.hid (HS.out.step h4)
  clear h4 f0 f1 hf
  go_wp2_with fail
  go_ret
  exact ⟨rfl, HS.out⟩
set_option maxRecDepth 100000 in
set_option maxHeartbeats 8000000 in
theorem core_yes (s : ByteArray) (h : s.size ≤ 500) (N : List Nd) (S : List (Nat × Nat)) (hlen : S.length = N.length) (hpos : 0 < N.length) (hN : N.length ≤ 100000) (h0 : S[0]? = some (0, s.size))
    (hk : ∀ (j : Nat) (x : Nd), N[j]? = some x → ∃ uj vj : Nat, S[j]? = some (uj, vj) ∧ Sp uj vj ∧ ∀ (k : Nat) (a : Int), x.k[k]? = some a → ∃ b u v : Nat, a = (b : Int) ∧ j < b ∧ S[b]? = some (u, v) ∧ Sp u v ∧ uj ≤ u ∧ v ≤ vj ∧
      ∀ k', k = k' + 1 → ∃ b' u' v' : Nat, x.k[k']? = some (b' : Int) ∧ S[b']? = some (u', v') ∧ Sp u' v' ∧ v' ≤ u)
    (c1 : DecT s 0 0 N) (c2 : SpaT s S) (c3 : PcR 17 s 0 0 [s]) (w : World) : Calls Try.prog 5 #[.string s] w fun e w' => e = .returned (.bool true) ∧ Since w w' := by
  have q1 : decide ((500 : Int) < (s.size : Int)) = false := decide_eq_false (by omega)
  obtain ⟨C, hC⟩ : ∃ C : Int, C = 0 := ⟨_, rfl⟩
  obtain ⟨P, hP⟩ : ∃ P : Int, P = 0 := ⟨_, rfl⟩
  replace c1 : DecT s C P N := by rw [hC, hP]; exact c1
  have hC2 : (C != 0) = false := by rw [hC]; rfl
  obtain ⟨z, hz⟩ : ∃ z : Nat, z = 0 := ⟨_, rfl⟩
  have c0 : Ret 16 #[.int .i64 0, .int .i64 (s.size : Int)] (.complex .f64 (fl (z : Int)) (fl (s.size : Int))) := by rw [hz]; exact Span.of_yes 0 s.size ⟨by omega, by omega⟩
  replace h0 : S[0]? = some (z, s.size) := by rw [hz]; exact h0
  have o0 : FloatKind.f64.format.order (fl (z : Int)) (fl (z : Int)) = some .eq := by rw [Flt.order_fl _ _ (by omega) (by omega)]; simp
  have o1 : FloatKind.f64.format.order (fl (s.size : Int)) (fl (s.size : Int)) = some .eq := by rw [Flt.order_fl _ _ (by omega) (by omega)]; simp
  have HK := Lib.hid hk
  have HSZ := Lib.hid h
  have n1 : ((S.length : Int) != (N.length : Int)) = false := by rw [hlen]; exact bne_self_eq_false _
  have n2 : ((N.length : Int) == 0) = false := by rw [beq_eq_false_iff_ne]; omega
  have n3 : (0 : Int) < (S.length : Int) := by omega
  have n4 : 0 < S.length := by omega
  have HL := Lib.hid hlen
  have H0 := Lib.hid h0
  have HNn := Lib.hid hpos
  have HNb := Lib.hid hN
  clear hC hP hk hlen hz h0 h hN
  go_enter Try.func5, Try.ntmps5
  go_wp2_with fail
  refine (c1 _).mono ?_
  rintro _ w1 ⟨tv, rfl, hT, h1⟩
  have hf := Lib.hid (show HR w w1.heap.size #[.int .i64 C, .int .i64 P] 27 (w1.alloc (.cells #[.int .i64 C, .int .i64 P] 27)) from ⟨heap_alloc_new w1 _⟩)
  have HS := Lib.hid (Since.alloc h1 (.cells #[.int .i64 C, .int .i64 P] 27))
  have HT := Lib.hid (hT.since ((Since.refl w1).alloc (.cells #[.int .i64 C, .int .i64 P] 27)))
  unfold F2
  clear h1 hT c1
  go_wp2_with fail
  refine (c2 _).mono ?_
  rintro _ w2 ⟨sv, rfl, hP, h2⟩
  replace hf := Lib.hid (hf.out.step h2)
  replace HS := Lib.hid (HS.out.step h2)
  replace HT := Lib.hid (HT.out.since h2)
  have HP := Lib.hid hP
  have f0 := hr_cell hf.out 0 _ rfl
  have f1 := hr_cell hf.out 1 _ rfl
  clear hP h2 c2
  obtain ⟨b, o, c, rfl, a1, a2, a3, a4⟩ := HT.out.form hpos
  obtain ⟨b2, o2, c2, rfl, e1, e2, e3, e4⟩ := HP.out.form (by have := HL.out; omega)
  have s0 := e4 0 _ H0.out
  dsimp only at s0
  rw [Nat.add_zero] at s0
  have H4 := Lib.hid a4
  have H5 := Lib.hid e4
  have B1 := Lib.hid a3
  have B2 := Lib.hid e3
  have q0 := Lib.hid c0
  clear a4 e4 a1 a2 e1 e2 a3 e3 c0 HT HP hf hpos
  go_wp2_with fail
  go_quiet ((go_at_call 16; exact Calls.quiet_of_same (stillQ q0.out _)))
  have HW : Hid (Since w2 (w2.drewN nq)) := Lib.hid (belowQ _ nq)
  clear s0 f0 f1 n1 n2 n3 n4 o0 o1 q0
  go_wp2_with fail
  go_loopw [6] (fun i wr => ∃ k : Nat, k ≤ N.length ∧ i = .int .i64 (k : Int) ∧ Hid (Since w2 wr)) (fun i _ => N.length - (intOf i).toNat)
  case atStart => exact ⟨0, Nat.zero_le _, rfl, HW⟩
  case round =>
    clear HW
    obtain ⟨i, hi, rfl, HW⟩ := hrel
    by_cases hlt : i < N.length
    · have t1 : decide ((i : Int) < (N.length : Int)) = true := decide_eq_true (by omega)
      have t2 : decide (i < N.length) = true := decide_eq_true hlt
      obtain ⟨x, hx⟩ : ∃ x, N[i]? = some x := ⟨_, List.getElem?_eq_getElem hlt⟩
      obtain ⟨uj, vj, g1, g2, g3⟩ := HK.out i x hx
      obtain ⟨kv, -, -, -, -, k4, k5⟩ := H4.out i x hx
      obtain ⟨A, d, rfl, -, -⟩ := k5.slice
      have m4 := (Below.cell HW.out (p := ⟨b, o + i * 5 + 4, none⟩) B1.out).trans k4
      have hle := k5.le
      have G1 := Lib.hid (H5.out i _ g1)
      have G2 := Lib.hid g2
      have G3 := Lib.hid g3
      have K4 := Lib.hid k4
      have K5 := Lib.hid k5
      clear hx g1 g2 g3 k4 k5
      go_wp2_with fail
      clear m4
      go_loopw [79] (fun kk wr => ∃ k : Nat, k ≤ x.k.length ∧ kk = .int .i64 (k : Int) ∧ Hid (Since w2 wr)) (fun kk _ => x.k.length - (intOf kk).toNat)
      case atStart => exact ⟨0, Nat.zero_le _, rfl, HW⟩
      case round =>
        clear HW
        obtain ⟨k, hk, rfl, HW⟩ := hrel
        by_cases hkl : k < x.k.length
        · obtain ⟨bk, ok, dk, hv, -, -, l3, l4⟩ := K5.out.form (by omega)
          obtain ⟨rfl, -, rfl⟩ := Value.slice.inj hv
          obtain ⟨a, ha⟩ : ∃ a, x.k[k]? = some a := ⟨_, List.getElem?_eq_getElem hkl⟩
          obtain ⟨bb, uu, vv, rfl, r2, r3, r4, r5, r6, r7⟩ := G3.out k a ha
          have r9 : bb < N.length := by have := (List.getElem?_eq_some_iff.1 r3).1; have := HL.out; omega
          have c9 := (Below.cell HW.out (p := ⟨bk, ok + k, none⟩) l3).trans (l4 k hkl)
          rw [show x.k.getD k 0 = (bb : Int) by simp [List.getD, ha]] at c9
          have m4 := (Below.cell HW.out (p := ⟨b, o + i * 5 + 4, none⟩) B1.out).trans K4.out
          have s1 := (Below.cell HW.out (p := ⟨b2, o2 + bb, none⟩) B2.out).trans (H5.out bb _ r3)
          have s2 := (Below.cell HW.out (p := ⟨b2, o2 + i, none⟩) B2.out).trans G1.out
          have i1 := Lib.hid (Span.inside_ret uu vv uj vj r4 G2.out true (decide_eq_true ⟨r5, r6⟩).symm)
          have t3 : decide ((k : Int) < (x.k.length : Int)) = true := decide_eq_true (by omega)
          have t4 : decide (k < x.k.length) = true := decide_eq_true hkl
          have t5 : decide ((bb : Int) ≤ (i : Int)) = false := decide_eq_false (by omega)
          have t6 : decide (bb ≤ i) = false := decide_eq_false (by omega)
          have t7 : decide ((N.length : Int) ≤ (bb : Int)) = false := decide_eq_false (by omega)
          have t8 : decide (N.length ≤ bb) = false := decide_eq_false (by omega)
          have b1 : (bb : Int) < (S.length : Int) := by have := HL.out; omega
          have d1 : bb < S.length := by have := HL.out; omega
          have d2 : i < S.length := by have := HL.out; omega
          have b2' : (i : Int) < (S.length : Int) := by have := HL.out; omega
          have b3 : (i : Int) < (N.length : Int) := by omega
          have b4 : (0 : Int) ≤ (bb : Int) := by omega
          have b5 : (0 : Int) ≤ (i : Int) := by omega
          have b6 : (0 : Int) ≤ (k : Int) := by omega
          have b7 : (k : Int) < (x.k.length : Int) := by omega
          dsimp only at s1 s2
          by_cases hk0 : k = 0
          · have t9 : decide ((0 : Int) < (k : Int)) = false := decide_eq_false (by omega)
            have t10 : decide (0 < k) = false := decide_eq_false (by omega)
            clear ha r2 r3 r4 r5 r6 r7 l4 hk0
            go_wp2_with fail
            go_quiet ((go_at_call 20; exact Calls.quiet_of_same (stillQ i1.out _)))
            have HW2 : Hid (Since w2 (wr.drewN nq)) := Lib.hid (HW.out.step (belowQ _ nq))
            clear c9 m4 s1 s2
            go_wp2_with fail
            go_round
            case rel => exact ⟨k + 1, by omega, by go_num, HW2⟩
            case measure => simp [intOf]; omega
          · obtain ⟨k', rfl⟩ : ∃ k', k = k' + 1 := ⟨k - 1, by omega⟩
            obtain ⟨b', u', v', j1, j2, j3, j4⟩ := r7 k' rfl
            have j9 : b' < S.length := (List.getElem?_eq_some_iff.1 j2).1
            have c8 := (Below.cell HW.out (p := ⟨bk, ok + k', none⟩) l3).trans (l4 k' (by omega))
            rw [show x.k.getD k' 0 = (b' : Int) by simp [List.getD, j1]] at c8
            have s3 := (Below.cell HW.out (p := ⟨b2, o2 + b', none⟩) B2.out).trans (H5.out b' _ j2)
            have i2 := Lib.hid (Span.apart_ret uu vv u' v' r4 j3 true (decide_eq_true (.inr j4)).symm)
            have t9 : decide ((0 : Int) < ((k' + 1 : Nat) : Int)) = true := decide_eq_true (by omega)
            have t10 : decide (0 < k' + 1) = true := decide_eq_true (by omega)
            have b8 : (b' : Int) < (S.length : Int) := by omega
            have d3 : k' < x.k.length := by omega
            have b9 : (0 : Int) ≤ (b' : Int) := by omega
            have b10 : (k' : Int) < (x.k.length : Int) := by omega
            have b11 : ((k' : Int) + 1) - 1 = (k' : Int) := by omega
            have b12 : (0 : Int) ≤ (k' : Int) := by omega
            dsimp only at s3
            clear ha r2 r3 r4 r5 r6 r7 l4 j1 j2 j3 j4 hk0
            go_wp2_with fail
            go_quiet (first | (go_at_call 20; exact Calls.quiet_of_same (stillQ i1.out _)) | (go_at_call 21; exact Calls.quiet_of_same (stillQ i2.out _)))
            have HW2 : Hid (Since w2 (wr.drewN nq)) := Lib.hid (HW.out.step (belowQ _ nq))
            clear c9 m4 s1 s2 s3 c8
            go_wp2_with fail
            go_round
            case rel => exact ⟨k' + 1 + 1, by omega, by go_num, HW2⟩
            case measure => simp [intOf]; omega
        · have t3 : decide ((k : Int) < (x.k.length : Int)) = false := decide_eq_false (by omega)
          have t4 : decide (k < x.k.length) = false := decide_eq_false hkl
          have hNb := HNb.out
          go_wp2_with fail
          go_round
          case rel => exact ⟨i + 1, by omega, by go_num, HW⟩
          case measure => simp [intOf]; omega
    · have t1 : decide ((i : Int) < (N.length : Int)) = false := decide_eq_false (by omega)
      have t2 : decide (i < N.length) = false := decide_eq_false hlt
      replace HS := Lib.hid (HS.out.step HW.out)
      go_wp2_with fail
      refine (c3 _).mono ?_
      rintro _ w3 ⟨v3, rfl, hv3, h3⟩
      have hg := Lib.hid (show HR w w3.heap.size #[.int .i64 0, .int .i64 0] 27 (w3.alloc (.cells #[.int .i64 0, .int .i64 0] 27)) from ⟨heap_alloc_new w3 _⟩)
      have g0 := hr_cell hg.out 0 _ rfl
      have hv4 := hv3.since ((Since.refl w3).alloc (.cells #[.int .i64 0, .int .i64 0] 27))
      obtain ⟨b9, o9, d9, rfl, -, -, -, l9⟩ := hv4.form (by simp)
      have s9 := l9 0 (by simp)
      rw [Nat.add_zero, show [s].getD 0 ⟨#[]⟩ = s from rfl] at s9
      replace HS := Lib.hid ((HS.out.step h3).alloc (.cells #[.int .i64 0, .int .i64 0] 27))
      unfold F2
      clear hv3 hv4 l9 h3
      have e9 := str_eq_t (rfl : s = s)
      go_wp2_with fail
      refine awake.calls0 ?_
      intro w4 h4
      replace HS := Lib.hid (HS.out.step h4)
      clear h4 g0 hg s9
      go_wp2_with fail
      go_ret
      exact ⟨rfl, HS.out⟩
set_option maxRecDepth 100000 in
theorem walk (a0 : ByteArray) (_w0 : a0.size ≤ maxLen) (w : World) : Calls Try.prog 5 #[.string a0] w fun e w' => e = .returned (.bool true) ∧ Below w.heap.size w w' := by
  by_cases h1 : 500 < a0.size
  · exact core_long _ h1 w
  have h1' : a0.size ≤ 500 := by omega
  cases ht : top Strs.rightB a0 with
  | error x =>
    obtain ⟨c, p⟩ := x
    obtain ⟨h3, h4⟩ := top_err_ok ht
    have hv : topV a0 = (c, p, [], []) := by unfold topV; rw [ht]
    exact core_no a0 h1' (c : Int) (p : Int) (by rw [bne_iff_ne]; omega) (by omega) (by omega) (dec_u a0 _w0 c p _ _ hv) (spans_u a0 _w0 c p _ _ hv) w
  | ok g =>
    have hv : topV a0 = (0, 0, g.flat 0, g.spans 0) := by unfold topV; rw [ht]
    obtain ⟨e1, e2, e3⟩ := top_first ht
    have hl1 : (g.spans 0).length = (g.flat 0).length := by rw [F.spans_len, F.flat_len]
    have hpos : 0 < (g.spans 0).length := (List.getElem?_eq_some_iff.1 e1).1
    refine core_yes a0 h1' (g.flat 0) (g.spans 0) hl1 (by omega) ?_ e1 ?_ (dec_u a0 _w0 0 0 _ _ hv) (spans_u a0 _w0 0 0 _ _ hv) (pieces_u a0 (by omega) 0 0 _ e3) w
    · rw [F.flat_len]
      have := cnt_enc g
      omega
    · intro j x hx
      obtain ⟨uj, vj, a1, a2, a3, a4, a5⟩ := kids_at g 0 0 j x hx
      rw [e2] at a4
      refine ⟨uj, vj, a1, ⟨a3, by omega⟩, fun k a ha => ?_⟩
      obtain ⟨b, u, v, b1, b2, b3, b4, b5, b6, b7⟩ := a5 k a ha
      refine ⟨b, u, v, by rw [b1, Nat.zero_add], b2, b3, ⟨b4, by omega⟩, b5, b6, fun k' hk => ?_⟩
      obtain ⟨b', u', v', c1, c2, c3, c4⟩ := b7 k' hk
      exact ⟨b', u', v', by rw [c1, Nat.zero_add], c2, ⟨c4, by omega⟩, c3⟩

set_option maxRecDepth 100000 in
theorem own : ownKnob Try.prog.godebug = none := by kernel_rfl

set_option maxRecDepth 100000 in
theorem lifted (os : Os) (started : os.Started) (H : Type) (enc : TypeId × Value → H) :
    ReturnsInHanded {} Try.checked os 5 .any (Rows.tlvNestsSpec.pre6 enc Try.prog Try.f5 Rows.tlvNestsRow.domain false) (Rows.tlvNestsSpec.post enc Try.prog Try.f5 false true false false) := by
  refine returnsInHanded_of_change (C := Try.checked) own started (by kernel_rfl) Try.func5
    (ChangeSpec.witness6 (enc := enc) (C := Try.checked) false ⟨#[], #[.string ⟨#[]⟩], []⟩ 8 (by kernel_rfl) (by kernel_rfl) (by kernel_rfl) (by kernel_rfl)) ?_
  intro W base args ds gs before hval0 hW hcnd _
  have hval : ∀ (j : Nat) t v, Try.f5.params[j]? = some t → args[j]? = some v → Value.okWide Try.prog W .any base t v := hval0
  have hW' := hW
  obtain ⟨p, q, hA0, hV, rfl, hfz, hnd⟩ := hW
  have hA : DataW.TrodAll enc Try.prog W 0 (fun _ => true) true Try.f5.params.toList args.toList ds p := hA0
  rw [Try.params5] at hA hval
  obtain ⟨v0, vs0, d0, ds0, p0, q0, hargs, rfl, rfl, h0, r0⟩ := trodAll_cons hA
  obtain ⟨rfl, rfl, rfl⟩ := trodAll_nil r0
  obtain rfl : args = #[v0] := by cases args; simp_all
  obtain ⟨rfl, rfl⟩ := trodVars_none hV
  obtain ⟨a0, rfl, rfl, rfl, w0⟩ := Go.ChangeMaps.open_string Try.underlying9 (hval 0 9 v0 rfl rfl) h0
  clear hA0 hval0
  simp only [List.append_nil] at hW'
  refine (walk a0 w0 W).mono fun e W' ⟨he, hg⟩ => ?_
  subst he
  exact ⟨_, rfl, _, _, _, _, _, [], hW', (trodAll_cons_mk (shut_bool Try.underlying4 _) trodAll_mk0), (trodAll_cons_mk (Go.ChangeMaps.shut_string Try.underlying9 w0) trodAll_mk0), rfl, hg.frame _, fun h => by cases h⟩

set_option maxRecDepth 100000 in
theorem over : Rows.tlvNestsRow.holds Try.pinned (OpenSpec.ofChange Rows.tlvNestsSpec) :=
  OpenClaim.holds_of_wide 5 Try.f5 rfl rfl rfl rfl rfl rfl rfl ⟨rfl, rfl, rfl, rfl, rfl⟩ rfl rfl rfl rfl rfl (by kernel_rfl) Try.func5 (by kernel_rfl)
    (of_decide_eq_true (by kernel_rfl)) (by unfold Func.isWrapper; first | (rw [if_pos (by decide +kernel)]; kernel_rfl) | (rw [if_neg (by decide +kernel)]; exact ⟨rfl, rfl⟩))
    (fun os started H enc _ => lifted os started H enc)

theorem proved : Rows.TlvNestsSaid :=
  over

end Go.Proofs.Ytihpndfjcgodiaa.tlvNests
