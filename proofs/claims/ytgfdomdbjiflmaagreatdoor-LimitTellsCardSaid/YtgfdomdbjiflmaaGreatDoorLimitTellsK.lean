/- The law LimitTells: how much any blob may be, and costs, is as the document says; no conditions. -/
import Derived.Test.YtgfdomdbjiflmaaGreatDoorRows
import Derived.WalkKit
import Derived.ProofKit
import Derived.OpenShut
import Derived.Lib.Hide
import Derived.Test.YtgfdomdbjiflmaaGreatDoorLt34
import Derived.Test.YtgfdomdbjiflmaaGreatDoorCards
import Derived.Test.YtgfdomdbjiflmaaGreatDoorTie
import Derived.LaidMore
import Derived.SevenTiedAt
import Derived.Stop.Joined
namespace Go.Proofs.YtgfdomdbjiflmaaGreatDoor.limitTells
open Go.ChangeShapes Go.WideShapes Go.ChangeAt Go.RowKit
open Limit Header Flt

set_option maxRecDepth 100000 in
set_option maxHeartbeats 8000000 in
theorem core_f (w : World) (kek b : ByteArray) (f n : Int) (l1 : kek.size ≤ 100) (l2 : b.size ≤ 10100) (c1 : Ret 6 #[.int .i64 f, .int .i64 (b.size : Int)] (.bool false))
    (V : Bool) (M : Int) (c2 : Ret 8 #[.int .i64 f, .int .i64 n] (.bool V)) (c3 : Ret 6 #[.int .i64 f, .int .i64 n] (.bool V)) (c4 : Ret 9 #[.int .i64 f, .int .i64 n] (.int .i64 M)) (c5 : Ret 10 #[.int .i64 f, .int .i64 n] (.int .i64 M))
    (c6 : KMk KH 11 #[.string kek, .int .i64 f, .string b] (.complex .f64 0 0)) (hT : KH w) :
    Calls Tryz.prog 3 #[.string kek, .int .i64 f, .int .i64 n, .string b] w fun x w' => x = .returned (.bool true) ∧ Since w w' := by
  have o1 : (FloatKind.f64.format.order 0 0 == some .eq) = true := by decide +kernel
  have t_1 : decide ((100 : Int) < (kek.size : Int)) = false := decide_eq_false (by omega)
  have t_2 : decide ((10100 : Int) < (b.size : Int)) = false := decide_eq_false (by omega)
  clear l1 l2
  have HS := Lib.hid (Since.refl w)
  have HT := Lib.hid hT
  clear hT
  have c9 := awake_k
  have b1 : (V == V) = true := beq_self_eq_true V
  have b2 : (M == M) = true := beq_self_eq_true M
  go_enter Tryz.func3, Tryz.ntmps3
  go_wp2_with fail
  refine (c1).calls ?_
  go_wp2_with fail
  repeat (first
    | (with_reducible refine c2.calls ?_; try go_wp2_with fail)
    | (with_reducible refine c3.calls ?_; try go_wp2_with fail)
    | (with_reducible refine c4.calls ?_; try go_wp2_with fail)
    | (with_reducible refine c5.calls ?_; try go_wp2_with fail)
    | (with_reducible refine c6.calls0 HT.out ?_; intro wz hz; replace HT := Lib.hid (Kp.keep HT.out hz); replace HS := Lib.hid (HS.out.step hz); clear hz; try go_wp2_with fail)
    | (with_reducible refine c9.calls0 HT.out ?_; intro wz hz; replace HT := Lib.hid (Kp.keep HT.out hz); replace HS := Lib.hid (HS.out.step hz); clear hz; try go_wp2_with fail))
  go_ret
  exact ⟨rfl, HS.out⟩
set_option maxRecDepth 100000 in
set_option maxHeartbeats 8000000 in
theorem core_k (w : World) (kek b : ByteArray) (f n : Int) (l1 : kek.size ≤ 100) (l2 : b.size ≤ 10100) (c1 : Ret 6 #[.int .i64 f, .int .i64 (b.size : Int)] (.bool true)) (k1 : ((kek.size : Int) == 16) = false) (k2 : ((kek.size : Int) == 24) = false) (k3 : ((kek.size : Int) == 32) = false)
    (V : Bool) (M : Int) (c2 : Ret 8 #[.int .i64 f, .int .i64 n] (.bool V)) (c3 : Ret 6 #[.int .i64 f, .int .i64 n] (.bool V)) (c4 : Ret 9 #[.int .i64 f, .int .i64 n] (.int .i64 M)) (c5 : Ret 10 #[.int .i64 f, .int .i64 n] (.int .i64 M))
    (c6 : KMk KH 11 #[.string kek, .int .i64 f, .string b] (.complex .f64 0 0)) (hT : KH w) :
    Calls Tryz.prog 3 #[.string kek, .int .i64 f, .int .i64 n, .string b] w fun x w' => x = .returned (.bool true) ∧ Since w w' := by
  have o1 : (FloatKind.f64.format.order 0 0 == some .eq) = true := by decide +kernel
  have t_1 : decide ((100 : Int) < (kek.size : Int)) = false := decide_eq_false (by omega)
  have t_2 : decide ((10100 : Int) < (b.size : Int)) = false := decide_eq_false (by omega)
  clear l1 l2
  have HS := Lib.hid (Since.refl w)
  have HT := Lib.hid hT
  clear hT
  have c9 := awake_k
  have b1 : (V == V) = true := beq_self_eq_true V
  have b2 : (M == M) = true := beq_self_eq_true M
  go_enter Tryz.func3, Tryz.ntmps3
  go_wp2_with fail
  refine (c1).calls ?_
  go_wp2_with fail
  repeat (first
    | (with_reducible refine c2.calls ?_; try go_wp2_with fail)
    | (with_reducible refine c3.calls ?_; try go_wp2_with fail)
    | (with_reducible refine c4.calls ?_; try go_wp2_with fail)
    | (with_reducible refine c5.calls ?_; try go_wp2_with fail)
    | (with_reducible refine c6.calls0 HT.out ?_; intro wz hz; replace HT := Lib.hid (Kp.keep HT.out hz); replace HS := Lib.hid (HS.out.step hz); clear hz; try go_wp2_with fail)
    | (with_reducible refine c9.calls0 HT.out ?_; intro wz hz; replace HT := Lib.hid (Kp.keep HT.out hz); replace HS := Lib.hid (HS.out.step hz); clear hz; try go_wp2_with fail))
  go_ret
  exact ⟨rfl, HS.out⟩
set_option maxRecDepth 100000 in
set_option maxHeartbeats 8000000 in
theorem core_y (w : World) (kek b : ByteArray) (f n : Int) (l1 : kek.size ≤ 100) (l2 : b.size ≤ 10100) (c1 : Ret 6 #[.int .i64 f, .int .i64 (b.size : Int)] (.bool true))
    (q1 q2 q3 : Bool) (k1 : ((kek.size : Int) == 16) = q1) (k2 : ((kek.size : Int) == 24) = q2) (k3 : ((kek.size : Int) == 32) = q3) (hk : (q1 = true ∧ q2 = false ∧ q3 = false) ∨ (q1 = false ∧ q2 = true ∧ q3 = false) ∨ (q1 = false ∧ q2 = false ∧ q3 = true))
    (V : Bool) (M : Int) (c2 : Ret 8 #[.int .i64 f, .int .i64 n] (.bool V)) (c3 : Ret 6 #[.int .i64 f, .int .i64 n] (.bool V)) (c4 : Ret 9 #[.int .i64 f, .int .i64 n] (.int .i64 M)) (c5 : Ret 10 #[.int .i64 f, .int .i64 n] (.int .i64 M))
    (X : Int) (F1 F2 : Nat) (v1 : ∀ w, (convert 3 25 (.int .i64 X)).run Tryz.prog w = .ok (.float .f64 F1) w) (v2 : ∀ w, (convert 3 25 (.int .i64 (b.size : Int))).run Tryz.prog w = .ok (.float .f64 F2) w)
    (o1 : (FloatKind.f64.format.order F1 F1 == some .eq) = true) (o2 : (FloatKind.f64.format.order F2 F2 == some .eq) = true)
    (c7 : Mak 7 #[.string kek, .int .i64 f, .string b] (.int .i64 X)) (c6 : KMk KH 11 #[.string kek, .int .i64 f, .string b] (.complex .f64 F1 F2)) (hT : KH w) :
    Calls Tryz.prog 3 #[.string kek, .int .i64 f, .int .i64 n, .string b] w fun x w' => x = .returned (.bool true) ∧ Since w w' := by
  have t_1 : decide ((100 : Int) < (kek.size : Int)) = false := decide_eq_false (by omega)
  have t_2 : decide ((10100 : Int) < (b.size : Int)) = false := decide_eq_false (by omega)
  clear l1 l2
  have HS := Lib.hid (Since.refl w)
  have HT := Lib.hid hT
  clear hT
  have c9 := awake_k
  have b1 : (V == V) = true := beq_self_eq_true V
  have b2 : (M == M) = true := beq_self_eq_true M
  rcases hk with ⟨rfl, rfl, rfl⟩ | ⟨rfl, rfl, rfl⟩ | ⟨rfl, rfl, rfl⟩
  all_goals
    go_enter Tryz.func3, Tryz.ntmps3
    go_wp2_with fail
    refine (c1).calls ?_
    go_wp2_with fail
    refine c7.calls0 ?_
    intro w1 h1
    replace HS := Lib.hid (HS.out.step h1)
    replace HT := Lib.hid (Kp.keep HT.out h1)
    clear h1
    go_wp2_with fail
    repeat (first
      | (with_reducible refine c2.calls ?_; try go_wp2_with fail)
      | (with_reducible refine c3.calls ?_; try go_wp2_with fail)
      | (with_reducible refine c4.calls ?_; try go_wp2_with fail)
      | (with_reducible refine c5.calls ?_; try go_wp2_with fail)
      | (with_reducible refine c6.calls0 HT.out ?_; intro wz hz; replace HT := Lib.hid (Kp.keep HT.out hz); replace HS := Lib.hid (HS.out.step hz); clear hz; try go_wp2_with fail)
      | (with_reducible refine c9.calls0 HT.out ?_; intro wz hz; replace HT := Lib.hid (Kp.keep HT.out hz); replace HS := Lib.hid (HS.out.step hz); clear hz; try go_wp2_with fail))
    go_ret
    exact ⟨rfl, HS.out⟩
set_option maxRecDepth 100000 in
theorem big_1 (w : World) (kek b : ByteArray) (f n : Int) (l1 : 100 < kek.size) (hT : KH w) :
    Calls Tryz.prog 3 #[.string kek, .int .i64 f, .int .i64 n, .string b] w fun x w' => x = .returned (.bool true) ∧ Since w w' := by
  have t_1 : decide ((100 : Int) < (kek.size : Int)) = decide (100 < kek.size) := by norm_cast
  rw [decide_eq_true l1] at t_1; clear l1
  have HS := Lib.hid (Since.refl w)
  have HT := Lib.hid hT
  clear hT
  have c9 := awake_k
  go_enter Tryz.func3, Tryz.ntmps3
  go_wp2_with fail
  repeat (first
    | (with_reducible refine c9.calls0 HT.out ?_; intro wz hz; replace HT := Lib.hid (Kp.keep HT.out hz); replace HS := Lib.hid (HS.out.step hz); clear hz; try go_wp2_with fail))
  go_ret
  exact ⟨rfl, HS.out⟩
set_option maxRecDepth 100000 in
theorem big_2 (w : World) (kek b : ByteArray) (f n : Int) (l1 : ¬ 100 < kek.size) (l2 : 10100 < b.size) (hT : KH w) :
    Calls Tryz.prog 3 #[.string kek, .int .i64 f, .int .i64 n, .string b] w fun x w' => x = .returned (.bool true) ∧ Since w w' := by
  have t_1 : decide ((100 : Int) < (kek.size : Int)) = decide (100 < kek.size) := by norm_cast
  rw [decide_eq_false l1] at t_1; have t_2 : decide ((10100 : Int) < (b.size : Int)) = true := decide_eq_true (by omega); clear l1 l2
  have HS := Lib.hid (Since.refl w)
  have HT := Lib.hid hT
  clear hT
  have c9 := awake_k
  go_enter Tryz.func3, Tryz.ntmps3
  go_wp2_with fail
  repeat (first
    | (with_reducible refine c9.calls0 HT.out ?_; intro wz hz; replace HT := Lib.hid (Kp.keep HT.out hz); replace HS := Lib.hid (HS.out.step hz); clear hz; try go_wp2_with fail))
  go_ret
  exact ⟨rfl, HS.out⟩
theorem same (x : Int) (h : 0 ≤ x ∧ x ≤ 9000000) : (FloatKind.f64.format.order (fl x) (fl x) == some .eq) = true := by
  rw [order_fl x x (by omega) (by omega)]
  show (compareOfLessAndEq x x == .eq) = true
  unfold compareOfLessAndEq
  rw [if_neg (by omega), if_pos rfl]; rfl
set_option maxRecDepth 100000 in
theorem walk (kek : ByteArray) (f n : Int) (b : ByteArray) (_w0 : kek.size ≤ maxLen) (_w1 : (Lit.int .i64 f).wf = true) (_w2 : (Lit.int .i64 n).wf = true) (_w3 : b.size ≤ maxLen) (w : World) (hT : KH w) :
    Calls Tryz.prog 3 #[.string kek, .int .i64 f, .int .i64 n, .string b] w fun x w' => x = .returned (.bool true) ∧ Below w.heap.size w w' := by
  by_cases l1 : 100 < kek.size
  · exact big_1 w kek b f n l1 hT
  by_cases l2 : 10100 < b.size
  · exact big_2 w kek b f n l1 l2 hT
  have c6 := cost_any kek b f (by omega)
  have c1 := rfits_ret f (b.size : Int) _ rfl
  have B := cost_b (kek.size : Int) f b
  cases hg : gateB (kek.size : Int) f b with
  | false =>
    have z1 : costI (kek.size : Int) f b = 0 := by unfold costI; rw [hg]; rfl
    have z2 : costD (kek.size : Int) f b = 0 := by unfold costD; rw [hg]; rfl
    rw [z1, z2, fl0] at c6
    cases hf : fitB f (b.size : Int) with
    | false =>
      rw [hf] at c1
      exact core_f w kek b f n (by omega) (by omega) c1 _ _ (fits_ret _ _ _ rfl) (rfits_ret _ _ _ rfl) (most_ret _ _ _ rfl) (rmost_ret _ _ _ rfl) c6 hT
    | true =>
      rw [hf] at c1
      unfold gateB at hg
      rw [hf, Bool.true_and] at hg
      unfold kk at hg
      simp only [Bool.or_eq_false_iff] at hg
      exact core_k w kek b f n (by omega) (by omega) c1 hg.1.1 hg.1.2 hg.2 _ _ (fits_ret _ _ _ rfl) (rfits_ret _ _ _ rfl) (most_ret _ _ _ rfl) (rmost_ret _ _ _ rfl) c6 hT
  | true =>
    have z2 : costD (kek.size : Int) f b = (b.size : Int) := by unfold costD; rw [hg]; rfl
    have c7 := RefLimit.blocks_any kek b f (by omega) hg
    rw [z2] at c6
    have MB := most_b f b
    unfold gateB at hg
    rw [Bool.and_eq_true] at hg
    rw [hg.1] at c1
    obtain ⟨q1, q2, q3, g1, g2, g3, hq⟩ := RefLimit.keys_of kek hg.2
    exact core_y w kek b f n (by omega) (by omega) c1 q1 q2 q3 g1 g2 g3 hq _ _ (fits_ret _ _ _ rfl) (rfits_ret _ _ _ rfl) (most_ret _ _ _ rfl) (rmost_ret _ _ _ rfl) _ _ _ (Span.conv_if _) (Span.conv_if _) (same _ (by omega)) (same _ (by omega)) c7 c6 hT

set_option maxRecDepth 100000 in
theorem own : ownKnob Tryz.prog.godebug = none := by kernel_rfl

def laidL {H : Type} : List (String × DataW H) := [("claviger/kind.lines", Rows.laid_claviger_kind_lines), ("claviger/table.lines", Rows.laid_claviger_table_lines)]
set_option maxRecDepth 100000 in
theorem door_met (os : Os) (args : Array Value) : laidMetH Tryz.prog laidL ((World.doorLaid Tryz.prog 400 os).forCall (fun _ _ => 0) ⟨#[], args, []⟩).memory :=
  laidMetH_of_parts3 (fuel := 8) (laidMet_of_run' 8 (by kernel_rfl) (by kernel_rfl)) (by kernel_rfl) (by kernel_rfl)
set_option maxRecDepth 100000 in
theorem lifted (os : Os) (started : os.Started) (H : Type) (enc : TypeId × Value → H) :
    ReturnsInHanded {} Tryz.checked os 3 .any (fun w args => (Rows.limitTellsSpec.pre enc Tryz.prog Tryz.f3 [] false w args ∧ laidMetH Tryz.prog laidL w) ∧ sizedMet enc Tryz.prog Tryz.f3 (OpenSpec.ofChange Rows.limitTellsSpec) false w args)
      (Rows.limitTellsSpec.post enc Tryz.prog Tryz.f3 false true false false) := by
  refine returnsInHanded_of_change_and (C := Tryz.checked) (X := fun w _ => laidMetH Tryz.prog laidL w) (fun _ _ _ hh h => h.of_heap hh) own started (by kernel_rfl) Tryz.func3
    (ChangeSpec.witness_shaped (enc := enc) (C := Tryz.checked) (os := os) (X := fun w _ => laidMetH Tryz.prog laidL w) false (World.doorLaid Tryz.prog 400 os) #[.string ⟨#[]⟩, .int .i64 0, .int .i64 0, .string ⟨#[]⟩] 8 rfl (World.shaped_of_RefB (by kernel_rfl) (by kernel_rfl)) (by kernel_rfl) (by kernel_rfl) (by kernel_rfl) (door_met os _)) ?_
  intro W base args ds gs before hval0 hW _ _ hL _
  have hval : ∀ (j : Nat) t v, Tryz.f3.params[j]? = some t → args[j]? = some v → Value.okWide Tryz.prog W .any base t v := hval0
  have hW' := hW
  obtain ⟨p, q, hA0, hV, rfl, hfz, hnd⟩ := hW
  have hA : DataW.TrodAll enc Tryz.prog W 0 (fun _ => true) true Tryz.f3.params.toList args.toList ds p := hA0
  rw [Tryz.params3] at hA hval
  obtain ⟨v0, vs0, d0, ds0, p0, q0, hargs, rfl, rfl, h0, r0⟩ := trodAll_cons hA
  obtain ⟨v1, vs1, d1, ds1, p1, q1, rfl, rfl, rfl, h1, r1⟩ := trodAll_cons r0
  obtain ⟨v2, vs2, d2, ds2, p2, q2, rfl, rfl, rfl, h2, r2⟩ := trodAll_cons r1
  obtain ⟨v3, vs3, d3, ds3, p3, q3, rfl, rfl, rfl, h3, r3⟩ := trodAll_cons r2
  obtain ⟨rfl, rfl, rfl⟩ := trodAll_nil r3
  obtain rfl : args = #[v0, v1, v2, v3] := by cases args; simp_all
  obtain ⟨rfl, rfl⟩ := trodVars_none hV
  obtain ⟨a0, rfl, rfl, rfl, w0⟩ := Go.ChangeMaps.open_string Tryz.underlying9 (hval 0 9 v0 rfl rfl) h0
  obtain ⟨a1, rfl, rfl, rfl, w1⟩ := open_int Tryz.underlying3 (hval 1 3 v1 rfl rfl) h1
  obtain ⟨a2, rfl, rfl, rfl, w2⟩ := open_int Tryz.underlying3 (hval 2 3 v2 rfl rfl) h2
  obtain ⟨a3, rfl, rfl, rfl, w3⟩ := Go.ChangeMaps.open_string Tryz.underlying9 (hval 3 9 v3 rfl rfl) h3
  clear hA0 hval0
  simp only [List.append_nil] at hW'
  refine (walk a0 a1 a2 a3 w0 w1 w2 w3 W (Header.tabs_of hL)).mono fun e W' ⟨he, hg⟩ => ?_
  subst he
  exact ⟨_, rfl, _, _, _, _, _, [], hW', (trodAll_cons_mk (shut_bool Tryz.underlying4 _) trodAll_mk0), (trodAll_cons_mk (Go.ChangeMaps.shut_string Tryz.underlying9 w0) (trodAll_cons_mk (shut_int Tryz.underlying3 w1) (trodAll_cons_mk (shut_int Tryz.underlying3 w2) (trodAll_cons_mk (Go.ChangeMaps.shut_string Tryz.underlying9 w3) trodAll_mk0)))), rfl, hg.frame _, fun h => by cases h⟩

set_option maxRecDepth 100000 in
theorem over : Rows.limitTellsRow.holds Tryz.pinned (OpenSpec.ofChange Rows.limitTellsSpec) :=
  OpenClaim.holds_of_wide 3 Tryz.f3 rfl rfl rfl rfl rfl rfl rfl ⟨rfl, rfl, rfl, rfl, rfl⟩ rfl rfl rfl rfl rfl (by kernel_rfl) Tryz.func3 (by kernel_rfl)
    (of_decide_eq_true (by kernel_rfl)) (by unfold Func.isWrapper; first | (rw [if_pos (by decide +kernel)]; kernel_rfl) | (rw [if_neg (by decide +kernel)]; exact ⟨rfl, rfl⟩))
    (fun os started H enc _ => lifted os started H enc)

set_option maxRecDepth 100000 in
theorem proved : Rows.LimitTellsCardSaid :=
  Claim7.holds_tied_plain_at .later [] [.data, .data] true Rows.limitTellsCard.stood.harness false
    over (fun _ h => by cases h) (by kernel_rfl) (fun _ h => by cases h) limitTells_row_tie rfl ⟨rfl, rfl⟩ (by kernel_rfl) rfl
    (fun f fn hf hfn => by
      obtain rfl : f = 3 := Option.some.inj ((show Tryz.prog.funcNamed "claviger/clavigerlaw42.LimitTells" = some 3 by kernel_rfl).symm.trans hf) |>.symm
      obtain rfl : fn = Tryz.f3 := (Option.some.inj (Tryz.func3.symm.trans hfn)).symm
      exact ⟨by kernel_rfl, fun j t ht => by
        rw [Tryz.params3] at ht
        have hm : t ∈ [9, 3, 3, 9] := by simpa using Array.mem_of_getElem? ht
        have hall : ([9, 3, 3, 9].all fun u => !Tryz.prog.wantsStandIn u) = true := by kernel_rfl
        exact (show Tryz.prog.wantsStandIn t = false by simpa using List.all_eq_true.1 hall t hm)⟩)
    (by kernel_rfl)

end Go.Proofs.YtgfdomdbjiflmaaGreatDoor.limitTells
