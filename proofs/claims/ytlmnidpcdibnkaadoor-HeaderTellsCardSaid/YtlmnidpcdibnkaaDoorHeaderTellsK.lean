/- The law HeaderTells: any header has the signs, any signs are the header, that the document says, or why not; no conditions. -/
import Derived.Test.YtlmnidpcdibnkaaDoorRows
import Derived.WalkKit
import Derived.ProofKit
import Derived.OpenShut
import Derived.Lib.Hide
import Derived.Test.YtlmnidpcdibnkaaDoorHq17
import Derived.Test.YtlmnidpcdibnkaaDoorCards
import Derived.Test.YtlmnidpcdibnkaaDoorTie
import Derived.LaidMore
import Derived.SevenTiedAt
import Derived.Stop.Joined
namespace Go.Proofs.YtlmnidpcdibnkaaDoor.headerTells
open Go.ChangeShapes Go.WideShapes Go.ChangeAt Go.RowKit
open Header

set_option maxRecDepth 100000 in
set_option maxHeartbeats 8000000 in
theorem core (n k : Int) (l u m v e s : ByteArray) (l1 : (l.size : Int) ≤ 20) (l2 : (s.size : Int) ≤ 200) (X : ByteArray) (E n' k' F : Int) (l' u' m' v' e' : ByteArray)
    (c0 : Mak 7 #[.agg #[.string u, .string m, .string v, .string e]] (.bool true))
    (c1 : KMk KH 25 #[.agg #[.int .i64 n, .string l, .int .i64 k, .string u, .string m, .string v, .string e]] (.tuple #[.string X, .int .i64 E])) (c2 : Mak 26 #[.agg #[.int .i64 n, .string l, .int .i64 k, .string u, .string m, .string v, .string e]] (.tuple #[.string X, .int .i64 E]))
    (c3 : KMk KH 27 #[.string s] (.tuple #[.agg #[.int .i64 n', .string l', .int .i64 k', .string u', .string m', .string v', .string e'], .int .i64 F])) (c4 : Mak 28 #[.string s] (.tuple #[.agg #[.int .i64 n', .string l', .int .i64 k', .string u', .string m', .string v', .string e'], .int .i64 F]))
    (w : World) (hT : KH w) :
    Calls Tryd.prog 5 #[.agg #[.int .i64 n, .string l, .int .i64 k, .string u, .string m, .string v, .string e], .string s] w fun x w' => x = .returned (.bool true) ∧ Since w w' := by
  have t1 : decide ((20 : Int) < (l.size : Int)) = false := decide_eq_false (by omega)
  have t2 : decide ((200 : Int) < (s.size : Int)) = false := decide_eq_false (by omega)
  have hp := Lib.hid (hb_new w KH hT #[.int .i64 n, .string l, .int .i64 k, .string u, .string m, .string v, .string e] 37)
  obtain ⟨_, m0, m1, m2, m3, m4, m5, m6⟩ := hb7 hp
  have hg := hp.out.lg
  have HS := Lib.hid hp.out.since
  have HT := Lib.hid hp.out.tabs
  have c9 := awake_k
  clear hp
  go_enter Tryd.func5, Tryd.ntmps5
  go_wp2_with fail
  refine c0.calls0 ?_
  intro wz hz
  replace m0 := (Below.cell hz (by exact hg)).trans m0
  replace m1 := (Below.cell hz (by exact hg)).trans m1
  replace m2 := (Below.cell hz (by exact hg)).trans m2
  replace m3 := (Below.cell hz (by exact hg)).trans m3
  replace m4 := (Below.cell hz (by exact hg)).trans m4
  replace m5 := (Below.cell hz (by exact hg)).trans m5
  replace m6 := (Below.cell hz (by exact hg)).trans m6
  replace hg := Nat.lt_of_lt_of_le hg (Below.size hz)
  replace HS := Lib.hid (HS.out.step hz)
  clear hz
  replace HT := Lib.hid (Kp.keep hT HS.out)
  go_wp2_with fail
  refine c1.calls0 HT.out ?_
  intro wz hz
  replace m0 := (Below.cell hz (by exact hg)).trans m0
  replace m1 := (Below.cell hz (by exact hg)).trans m1
  replace m2 := (Below.cell hz (by exact hg)).trans m2
  replace m3 := (Below.cell hz (by exact hg)).trans m3
  replace m4 := (Below.cell hz (by exact hg)).trans m4
  replace m5 := (Below.cell hz (by exact hg)).trans m5
  replace m6 := (Below.cell hz (by exact hg)).trans m6
  replace hg := Nat.lt_of_lt_of_le hg (Below.size hz)
  replace HT := Lib.hid (Kp.keep HT.out hz)
  replace HS := Lib.hid (HS.out.step hz)
  clear hz
  go_wp2_with fail
  refine c2.calls0 ?_
  intro wz hz
  replace m0 := (Below.cell hz (by exact hg)).trans m0
  replace m1 := (Below.cell hz (by exact hg)).trans m1
  replace m2 := (Below.cell hz (by exact hg)).trans m2
  replace m3 := (Below.cell hz (by exact hg)).trans m3
  replace m4 := (Below.cell hz (by exact hg)).trans m4
  replace m5 := (Below.cell hz (by exact hg)).trans m5
  replace m6 := (Below.cell hz (by exact hg)).trans m6
  replace hg := Nat.lt_of_lt_of_le hg (Below.size hz)
  replace HS := Lib.hid (HS.out.step hz)
  clear hz
  replace HT := Lib.hid (Kp.keep hT HS.out)
  go_wp2_with fail
  refine c3.calls0 HT.out ?_
  intro wz hz
  replace HT := Lib.hid (Kp.keep HT.out hz)
  replace HS := Lib.hid (HS.out.step hz)
  clear hz
  go_wp2_with fail
  obtain ⟨W2, hW2⟩ : ∃ W2, W2 = wz.alloc (.cells #[.int .i64 n', .string l', .int .i64 k', .string u', .string m', .string v', .string e'] 40) := ⟨_, rfl⟩
  have hp2 : Hid (HB w KH wz.heap.size #[.int .i64 n', .string l', .int .i64 k', .string u', .string m', .string v', .string e'] W2) := Lib.hid (by
    have h := hb_new wz KH HT.out #[.int .i64 n', .string l', .int .i64 k', .string u', .string m', .string v', .string e'] 40
    rw [← hW2] at h
    exact ⟨HS.out.step h.since, h.tabs, h.cell, h.lg⟩)
  rw [← hW2]
  clear hW2
  obtain ⟨_, q0, q1, q2, q3, q4, q5, q6⟩ := hb7 hp2
  have hg2 := hp2.out.lg
  replace HS := Lib.hid hp2.out.since
  replace HT := Lib.hid hp2.out.tabs
  refine c4.calls0 ?_
  intro wz hz
  replace q0 := (Below.cell hz (by exact hg2)).trans q0
  replace q1 := (Below.cell hz (by exact hg2)).trans q1
  replace q2 := (Below.cell hz (by exact hg2)).trans q2
  replace q3 := (Below.cell hz (by exact hg2)).trans q3
  replace q4 := (Below.cell hz (by exact hg2)).trans q4
  replace q5 := (Below.cell hz (by exact hg2)).trans q5
  replace q6 := (Below.cell hz (by exact hg2)).trans q6
  replace hg2 := Nat.lt_of_lt_of_le hg2 (Below.size hz)
  replace HS := Lib.hid (HS.out.step hz)
  clear hz
  replace HT := Lib.hid (Kp.keep hT HS.out)
  go_wp2_with fail
  replace HS := Lib.hid (HS.out.alloc (.cells #[.int .i64 n', .string l', .int .i64 k', .string u', .string m', .string v', .string e'] 37))
  replace HT := Lib.hid (Kp.keep hT HS.out)
  refine c9.calls0 HT.out ?_
  intro wz hz
  replace HT := Lib.hid (Kp.keep HT.out hz)
  replace HS := Lib.hid (HS.out.step hz)
  clear hz
  go_wp2_with fail
  go_ret
  exact ⟨rfl, HS.out⟩
set_option maxRecDepth 100000 in
set_option maxHeartbeats 4000000 in
theorem core_big (n k : Int) (l u m v e s : ByteArray) (q : Bool) (hq : q = true → 20 < l.size ∨ 200 < s.size) (c0 : Mak 7 #[.agg #[.string u, .string m, .string v, .string e]] (.bool q)) (w : World) (hT : KH w) :
    Calls Tryd.prog 5 #[.agg #[.int .i64 n, .string l, .int .i64 k, .string u, .string m, .string v, .string e], .string s] w fun x w' => x = .returned (.bool true) ∧ Since w w' := by
  cases q
  · clear hq
    have hp := Lib.hid (hb_new w KH hT #[.int .i64 n, .string l, .int .i64 k, .string u, .string m, .string v, .string e] 37)
    obtain ⟨_, m0, m1, m2, m3, m4, m5, m6⟩ := hb7 hp
    have hg := hp.out.lg
    have HS := Lib.hid hp.out.since
    have HT := Lib.hid hp.out.tabs
    have c9 := awake_k
    clear hp
    go_enter Tryd.func5, Tryd.ntmps5
    go_wp2_with fail
    refine c0.calls0 ?_
    intro wz hz
    replace m0 := (Below.cell hz (by exact hg)).trans m0
    replace m1 := (Below.cell hz (by exact hg)).trans m1
    replace m2 := (Below.cell hz (by exact hg)).trans m2
    replace m3 := (Below.cell hz (by exact hg)).trans m3
    replace m4 := (Below.cell hz (by exact hg)).trans m4
    replace m5 := (Below.cell hz (by exact hg)).trans m5
    replace m6 := (Below.cell hz (by exact hg)).trans m6
    replace hg := Nat.lt_of_lt_of_le hg (Below.size hz)
    replace HS := Lib.hid (HS.out.step hz)
    clear hz
    replace HT := Lib.hid (Kp.keep hT HS.out)
    go_wp2_with fail
    refine c9.calls0 HT.out ?_
    intro wz hz
    replace HT := Lib.hid (Kp.keep HT.out hz)
    replace HS := Lib.hid (HS.out.step hz)
    clear hz
    go_wp2_with fail
    go_ret
    exact ⟨rfl, HS.out⟩
  · by_cases h1 : 20 < l.size
    · have t1 : decide ((20 : Int) < (l.size : Int)) = true := decide_eq_true (by omega)
      clear hq h1
      have hp := Lib.hid (hb_new w KH hT #[.int .i64 n, .string l, .int .i64 k, .string u, .string m, .string v, .string e] 37)
      obtain ⟨_, m0, m1, m2, m3, m4, m5, m6⟩ := hb7 hp
      have hg := hp.out.lg
      have HS := Lib.hid hp.out.since
      have HT := Lib.hid hp.out.tabs
      have c9 := awake_k
      clear hp
      go_enter Tryd.func5, Tryd.ntmps5
      go_wp2_with fail
      refine c0.calls0 ?_
      intro wz hz
      replace m0 := (Below.cell hz (by exact hg)).trans m0
      replace m1 := (Below.cell hz (by exact hg)).trans m1
      replace m2 := (Below.cell hz (by exact hg)).trans m2
      replace m3 := (Below.cell hz (by exact hg)).trans m3
      replace m4 := (Below.cell hz (by exact hg)).trans m4
      replace m5 := (Below.cell hz (by exact hg)).trans m5
      replace m6 := (Below.cell hz (by exact hg)).trans m6
      replace hg := Nat.lt_of_lt_of_le hg (Below.size hz)
      replace HS := Lib.hid (HS.out.step hz)
      clear hz
      replace HT := Lib.hid (Kp.keep hT HS.out)
      go_wp2_with fail
      refine c9.calls0 HT.out ?_
      intro wz hz
      replace HT := Lib.hid (Kp.keep HT.out hz)
      replace HS := Lib.hid (HS.out.step hz)
      clear hz
      go_wp2_with fail
      go_ret
      exact ⟨rfl, HS.out⟩
    · have t1 : decide ((20 : Int) < (l.size : Int)) = false := decide_eq_false (by omega)
      have t2 : decide ((200 : Int) < (s.size : Int)) = true := decide_eq_true (by have := hq rfl; omega)
      clear hq h1
      have hp := Lib.hid (hb_new w KH hT #[.int .i64 n, .string l, .int .i64 k, .string u, .string m, .string v, .string e] 37)
      obtain ⟨_, m0, m1, m2, m3, m4, m5, m6⟩ := hb7 hp
      have hg := hp.out.lg
      have HS := Lib.hid hp.out.since
      have HT := Lib.hid hp.out.tabs
      have c9 := awake_k
      clear hp
      go_enter Tryd.func5, Tryd.ntmps5
      go_wp2_with fail
      refine c0.calls0 ?_
      intro wz hz
      replace m0 := (Below.cell hz (by exact hg)).trans m0
      replace m1 := (Below.cell hz (by exact hg)).trans m1
      replace m2 := (Below.cell hz (by exact hg)).trans m2
      replace m3 := (Below.cell hz (by exact hg)).trans m3
      replace m4 := (Below.cell hz (by exact hg)).trans m4
      replace m5 := (Below.cell hz (by exact hg)).trans m5
      replace m6 := (Below.cell hz (by exact hg)).trans m6
      replace hg := Nat.lt_of_lt_of_le hg (Below.size hz)
      replace HS := Lib.hid (HS.out.step hz)
      clear hz
      replace HT := Lib.hid (Kp.keep hT HS.out)
      go_wp2_with fail
      refine c9.calls0 HT.out ?_
      intro wz hz
      replace HT := Lib.hid (Kp.keep HT.out hz)
      replace HS := Lib.hid (HS.out.step hz)
      clear hz
      go_wp2_with fail
      go_ret
      exact ⟨rfl, HS.out⟩
theorem dec_shape (s : ByteArray) : ∃ n k l u m v e, decV s = C7 n k l u m v e := by
  unfold decV
  split
  · exact ⟨_, _, _, _, _, _, _, rfl⟩
  · exact ⟨0, 0, _, _, _, _, _, rfl⟩
set_option maxRecDepth 100000 in
theorem walk (w : World) (n : Int) (l : ByteArray) (k : Int) (u m v e s : ByteArray) (_f0 : (Lit.int .i64 n).wf = true) (_f1 : l.size ≤ maxLen) (_f2 : (Lit.int .i64 k).wf = true) (_f3 : u.size ≤ maxLen) (_f4 : m.size ≤ maxLen) (_f5 : v.size ≤ maxLen) (_f6 : e.size ≤ maxLen) (_w1 : s.size ≤ maxLen) (hT : KH w) :
    Calls Tryd.prog 5 #[.agg #[.int .i64 n, .string l, .int .i64 k, .string u, .string m, .string v, .string e], .string s] w fun x w' => x = .returned (.bool true) ∧ Below w.heap.size w w' := by
  have c0 := Plain.head_mak u m v e _ rfl
  cases hq : Plain.headB u m v e with
  | false =>
    rw [hq] at c0
    exact core_big n k l u m v e s false (fun h => by cases h) c0 w hT
  | true =>
    rw [hq] at c0
    by_cases hb : 20 < l.size ∨ 200 < s.size
    · exact core_big n k l u m v e s true (fun _ => hb) c0 w hT
    · unfold Plain.headB at hq
      simp only [Bool.and_eq_true, decide_eq_true_eq] at hq
      obtain ⟨n', k', l', u', m', v', e', hV⟩ := dec_shape s
      have c3 := dec_any s (by omega)
      have c4 := rdec_any s (by omega)
      rw [hV] at c3 c4
      exact core n k l u m v e s (by omega) (by omega) _ _ n' k' _ l' u' m' v' e' c0 (enc_any n k l u m v e ⟨by omega, by omega, by omega, by omega⟩ _ _ rfl rfl) (renc_any n k l u m v e ⟨by omega, by omega, by omega, by omega⟩ _ _ rfl rfl) c3 c4 w hT
set_option maxRecDepth 100000 in
/-- a header among the arguments -/
theorem header_arg {H : Type} {enc : TypeId × Value → H} {w : World} {sp : Nat → Bool} {held : Bool} {r : Reach} {b0 : Nat} {x : Value} {d : DataW H} {ps : List MemPlace}
    (hv : Value.okWide Tryd.prog w r b0 37 x) (h : DataW.Trod enc Tryd.prog w 0 sp held 37 x d ps) (_ : ∀ x ∈ ps, x.block < w.heap.size) :
    ∃ n l k u m v e, x = .agg #[.int .i64 n, .string l, .int .i64 k, .string u, .string m, .string v, .string e] ∧ (Lit.int .i64 n).wf = true ∧ l.size ≤ maxLen ∧ (Lit.int .i64 k).wf = true ∧ u.size ≤ maxLen ∧ m.size ≤ maxLen ∧ v.size ≤ maxLen ∧ e.size ≤ maxLen := header_read hv h

set_option maxRecDepth 100000 in
theorem own : ownKnob Tryd.prog.godebug = none := by kernel_rfl
set_option maxRecDepth 100000 in
theorem laidOut : laidOutB Tryd.prog = true := by kernel_rfl

def laidL {H : Type} : List (String × DataW H) := [("claviger/kind.lines", Rows.laid_claviger_kind_lines), ("claviger/table.lines", Rows.laid_claviger_table_lines)]
set_option maxRecDepth 100000 in
theorem door_met (os : Os) (args : Array Value) : laidMetH Tryd.prog laidL ((World.doorLaid Tryd.prog 400 os).forCall (fun _ _ => 0) ⟨#[], args, []⟩).memory :=
  laidMetH_of_parts3 (fuel := 8) (laidMet_of_run' 8 (by kernel_rfl) (by kernel_rfl)) (by kernel_rfl) (by kernel_rfl)
set_option maxRecDepth 100000 in
theorem lifted (os : Os) (started : os.Started) (H : Type) (enc : TypeId × Value → H) :
    ReturnsInHanded {} Tryd.checked os 5 .any (fun w args => (Rows.headerTellsSpec.pre enc Tryd.prog Tryd.f5 [] false w args ∧ laidMetH Tryd.prog laidL w) ∧ sizedMet enc Tryd.prog Tryd.f5 (OpenSpec.ofChange Rows.headerTellsSpec) false w args)
      (Rows.headerTellsSpec.post enc Tryd.prog Tryd.f5 false true false false) := by
  refine returnsInHanded_of_change_and (C := Tryd.checked) (X := fun w _ => laidMetH Tryd.prog laidL w) (fun _ _ _ hh h => h.of_heap hh) own started (by kernel_rfl) Tryd.func5
    (ChangeSpec.witness_shaped (enc := enc) (C := Tryd.checked) (os := os) (X := fun w _ => laidMetH Tryd.prog laidL w) false (World.doorLaid Tryd.prog 400 os) #[.agg #[.int .i64 0, .string ⟨#[]⟩, .int .i64 0, .string ⟨#[]⟩, .string ⟨#[]⟩, .string ⟨#[]⟩, .string ⟨#[]⟩], .string ⟨#[]⟩] 8 rfl (World.shaped_of_RefB (by kernel_rfl) (by kernel_rfl)) (by kernel_rfl) (by kernel_rfl) (by kernel_rfl) (door_met os _)) ?_
  intro W base args ds gs before hval0 hW _ _ hL _
  have hval : ∀ (j : Nat) t v, Tryd.f5.params[j]? = some t → args[j]? = some v → Value.okWide Tryd.prog W .any base t v := hval0
  have hW' := hW
  obtain ⟨p, q, hA0, hV, rfl, hfz, hnd⟩ := hW
  have hA : DataW.TrodAll enc Tryd.prog W 0 (fun _ => true) true Tryd.f5.params.toList args.toList ds p := hA0
  rw [Tryd.params5] at hA hval
  obtain ⟨v0, vs0, d0, ds0, p0, q0, hargs, rfl, rfl, h0, r0⟩ := trodAll_cons hA
  obtain ⟨v1, vs1, d1, ds1, p1, q1, rfl, rfl, rfl, h1, r1⟩ := trodAll_cons r0
  obtain ⟨rfl, rfl, rfl⟩ := trodAll_nil r1
  obtain rfl : args = #[v0, v1] := by cases args; simp_all
  obtain ⟨rfl, rfl⟩ := trodVars_none hV
  have h0k := h0
  have hlt0 : ∀ x ∈ p0, x.block < W.heap.size := fun x hx => by simpa using hW'.lt x (by simp [hx])
  obtain ⟨a0_n, a0_l, a0_k, a0_u, a0_m, a0_v, a0_e, rfl, f0_0, f0_1, f0_2, f0_3, f0_4, f0_5, f0_6⟩ := header_arg (hval 0 37 v0 rfl rfl) h0 hlt0
  obtain ⟨a1, rfl, rfl, rfl, w1⟩ := Go.ChangeMaps.open_string Tryd.underlying9 (hval 1 9 v1 rfl rfl) h1
  clear hA0 hval0
  simp only [List.append_nil] at hW'
  refine (walk W a0_n a0_l a0_k a0_u a0_m a0_v a0_e a1 f0_0 f0_1 f0_2 f0_3 f0_4 f0_5 f0_6 w1 (Header.tabs_of hL)).mono fun e W' ⟨he, hg⟩ => ?_
  subst he
  exact ⟨_, rfl, _, _, _, _, _, [], hW', (trodAll_cons_mk (shut_bool Tryd.underlying4 _) trodAll_mk0), (trodAll_cons_mk (Below.trod laidOut (by kernel_rfl) (of_decide_eq_true (by kernel_rfl)) h0k hg hlt0) (trodAll_cons_mk (Go.ChangeMaps.shut_string Tryd.underlying9 w1) trodAll_mk0)), rfl, hg.frame _, fun h => by cases h⟩

set_option maxRecDepth 100000 in
theorem over : Rows.headerTellsRow.holds Tryd.pinned (OpenSpec.ofChange Rows.headerTellsSpec) :=
  OpenClaim.holds_of_wide 5 Tryd.f5 rfl rfl rfl rfl rfl rfl rfl ⟨rfl, rfl, rfl, rfl, rfl⟩ rfl rfl rfl rfl rfl (by kernel_rfl) Tryd.func5 (by kernel_rfl)
    (of_decide_eq_true (by kernel_rfl)) (by unfold Func.isWrapper; first | (rw [if_pos (by decide +kernel)]; kernel_rfl) | (rw [if_neg (by decide +kernel)]; exact ⟨rfl, rfl⟩))
    (fun os started H enc _ => lifted os started H enc)

set_option maxRecDepth 100000 in
theorem proved : Rows.HeaderTellsCardSaid :=
  Claim7.holds_tied_plain_at .later [] [.data, .data] true Rows.headerTellsCard.stood.harness false
    over (fun _ h => by cases h) (by kernel_rfl) (fun _ h => by cases h) headerTells_row_tie rfl ⟨rfl, rfl⟩ (by kernel_rfl) rfl
    (fun f fn hf hfn => by
      obtain rfl : f = 5 := Option.some.inj ((show Tryd.prog.funcNamed "claviger/clavigerlaw31.HeaderTells" = some 5 by kernel_rfl).symm.trans hf) |>.symm
      obtain rfl : fn = Tryd.f5 := (Option.some.inj (Tryd.func5.symm.trans hfn)).symm
      exact ⟨by kernel_rfl, fun j t ht => by
        rw [Tryd.params5] at ht
        have hm : t ∈ [37, 9] := by simpa using Array.mem_of_getElem? ht
        have hall : ([37, 9].all fun u => !Tryd.prog.wantsStandIn u) = true := by kernel_rfl
        exact (show Tryd.prog.wantsStandIn t = false by simpa using List.all_eq_true.1 hall t hm)⟩)
    (by kernel_rfl)

end Go.Proofs.YtlmnidpcdibnkaaDoor.headerTells
