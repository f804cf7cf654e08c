/- The law UsageTells: what may be done with any record, and whether it may leave, is as the document says; no conditions. -/
import Derived.Test.YtddlaafpianjbaaDoorRows
import Derived.WalkKit
import Derived.ProofKit
import Derived.OpenShut
import Derived.Lib.Hide
import Derived.Test.YtddlaafpianjbaaDoorUs27
import Derived.Test.YtddlaafpianjbaaDoorUs19
import Derived.Test.YtddlaafpianjbaaDoorCards
import Derived.Test.YtddlaafpianjbaaDoorTie
import Derived.LaidMore
import Derived.SevenTiedAt
import Derived.Stop.Joined
namespace Go.Proofs.YtddlaafpianjbaaDoor.usageTells
open Go.ChangeShapes Go.WideShapes Go.ChangeAt Go.RowKit
open Att Us

set_option maxRecDepth 100000 in
set_option maxHeartbeats 8000000 in
theorem core (w : World) (K : Int) (k : ByteArray) (A : Option Addr) (n q : Nat) (L : List A2) (u m v e : ByteArray) (op : ByteArray) (tr : Bool) (hx : AttsS w (.slice A n q) L) (l2 : op.size ≤ 100) (c0 : RdA 5 L (fun x => #[rv K k u m v e x]) (.bool true)) (F : List ByteArray) (c1 : MkOf 8 Table.Tabs u m v e F) (c2 : MkOf 9 KT u m v e F) (c3 : MkS 10 #[] ops) (c4 : MkS 11 #[] ops) (M : Int) (c5 : RdK Table.Tabs 12 L (fun x => #[rv K k u m v e x, .string op]) (.int .i64 M)) (c6 : RdA 13 L (fun x => #[rv K k u m v e x, .string op]) (.int .i64 M)) (X : ByteArray) (c7 : RdA 14 L (fun x => #[rv K k u m v e x]) (.string X)) (c8 : RdA 15 L (fun x => #[rv K k u m v e x]) (.string X)) (E : Int) (d1 : RdA 16 L (fun x => #[rv K k u m v e x, .bool tr]) (.int .i64 E)) (d2 : RdA 17 L (fun x => #[rv K k u m v e x, .bool tr]) (.int .i64 E)) (hT : Table.Tabs w) :
    Calls Tryd.prog 3 #[.agg #[.int .i64 K, .string k, .slice A n q, .string u, .string m, .string v, .string e], .string op, .bool tr] w fun x w' => x = .returned (.bool true) ∧ Since w w' := by
  have t2 : decide ((100 : Int) < (op.size : Int)) = false := decide_eq_false (by omega)
  have b1 : (E == E) = true := beq_self_eq_true E
  have b2 : (M == M) = true := beq_self_eq_true M
  have b4 : (X.toList == X.toList) = true := beq_self_eq_true _
  clear l2
  have hp := Lib.hid (tx_new (K := K) (k := k) (u := u) (m := m) (v := v) (e := e) hT hx)
  have c9 := awake_k
  obtain ⟨_, m0, m1, m2, m3, m4, m5, m6⟩ := tx7 hp
  clear hx hT
  go_enter Tryd.func3, Tryd.ntmps3
  go_wp2_with fail
  clear m0 m1 m2 m3 m4 m5 m6
  refine (c0.calls0 hp.out.atts) ?_
  intro w20 h20
  replace hp := txstep (by first | exact h20 | exact (Since.alloc (Since.refl _) _).step h20) hp
  clear h20
  go_wp2_with fail
  go_region_held3 (fun W' => Hid (TX w w.heap.size K k u m v e (.slice A n q) L W') ∧ W'.cell? ⟨w.heap.size, 0, none⟩ = some (.int .i64 K) ∧ W'.cell? ⟨w.heap.size, 1, none⟩ = some (.string k) ∧ W'.cell? ⟨w.heap.size, 2, none⟩ = some (.slice A n q) ∧ W'.cell? ⟨w.heap.size, 3, none⟩ = some (.string u) ∧ W'.cell? ⟨w.heap.size, 4, none⟩ = some (.string m) ∧ W'.cell? ⟨w.heap.size, 5, none⟩ = some (.string v) ∧ W'.cell? ⟨w.heap.size, 6, none⟩ = some (.string e))
    (first | exact tx7 (by assumption) | exact tx7 (txdrew (by assumption)))
    (first
      | (go_at_call 8; refine (c1 _ (Hid.out (by first | assumption | exact txdrew (by assumption) : Hid (TX w w.heap.size K k u m v e (.slice A n q) L _))).hb.tabs).mono ?_; rintro r w1 ⟨V1, rfl, hv1, h1⟩; have hp1 : Hid (TX w w.heap.size K k u m v e (.slice A n q) L w1) := txstep h1 (by first | assumption | exact txdrew (by assumption) : Hid (TX w w.heap.size K k u m v e (.slice A n q) L _)); clear h1)
      | (go_at_call 9; refine (c2 _ trivial).mono ?_; rintro r w2 ⟨V2, rfl, hv2, h2⟩; have hp2 : Hid (TX w w.heap.size K k u m v e (.slice A n q) L w2) := txstep h2 (by first | assumption | exact txdrew (by assumption) : Hid (TX w w.heap.size K k u m v e (.slice A n q) L _)); replace hv1 := SlR.since hv1 h2; clear h2)
      | (go_at_call 10; refine (c3 _).mono ?_; rintro r w3 ⟨V3, rfl, hv3, h3⟩; have hp3 : Hid (TX w w.heap.size K k u m v e (.slice A n q) L w3) := txstep h3 (by first | assumption | exact txdrew (by assumption) : Hid (TX w w.heap.size K k u m v e (.slice A n q) L _)); clear h3)
      | (go_at_call 11; refine (c4 _).mono ?_; rintro r w4 ⟨V4, rfl, hv4, h4⟩; have hp4 : Hid (TX w w.heap.size K k u m v e (.slice A n q) L w4) := txstep h4 (by first | assumption | exact txdrew (by assumption) : Hid (TX w w.heap.size K k u m v e (.slice A n q) L _)); replace hv3 := SlR.since hv3 h4; clear h4)
      | (go_at_call 7; refine (eq_t hv1 hv2).mono ?_; rintro r w5 ⟨rfl, h5⟩; have hp5 : Hid (TX w w.heap.size K k u m v e (.slice A n q) L w5) := txstep h5 (by first | assumption | exact txdrew (by assumption) : Hid (TX w w.heap.size K k u m v e (.slice A n q) L _)); clear h5 hv1 hv2)
      | (go_at_call 7; refine (eq_t hv3 hv4).mono ?_; rintro r w6 ⟨rfl, h6⟩; have hp6 : Hid (TX w w.heap.size K k u m v e (.slice A n q) L w6) := txstep h6 (by first | assumption | exact txdrew (by assumption) : Hid (TX w w.heap.size K k u m v e (.slice A n q) L _)); clear h6 hv3 hv4)
      | (go_at_call 12; refine c5.calls0 (Hid.out (by first | assumption | exact txdrew (by assumption) : Hid (TX w w.heap.size K k u m v e (.slice A n q) L _))).hb.tabs (Hid.out (by first | assumption | exact txdrew (by assumption) : Hid (TX w w.heap.size K k u m v e (.slice A n q) L _))).atts ?_; intro w7 h7; have hp7 : Hid (TX w w.heap.size K k u m v e (.slice A n q) L w7) := txstep h7 (by first | assumption | exact txdrew (by assumption) : Hid (TX w w.heap.size K k u m v e (.slice A n q) L _)); clear h7)
      | (go_at_call 13; refine c6.calls0 (Hid.out (by first | assumption | exact txdrew (by assumption) : Hid (TX w w.heap.size K k u m v e (.slice A n q) L _))).atts ?_; intro w8 h8; have hp8 : Hid (TX w w.heap.size K k u m v e (.slice A n q) L w8) := txstep h8 (by first | assumption | exact txdrew (by assumption) : Hid (TX w w.heap.size K k u m v e (.slice A n q) L _)); clear h8)
      | (go_at_call 14; refine c7.calls0 (Hid.out (by first | assumption | exact txdrew (by assumption) : Hid (TX w w.heap.size K k u m v e (.slice A n q) L _))).atts ?_; intro w10 h10; have hp10 : Hid (TX w w.heap.size K k u m v e (.slice A n q) L w10) := txstep h10 (by first | assumption | exact txdrew (by assumption) : Hid (TX w w.heap.size K k u m v e (.slice A n q) L _)); clear h10)
      | (go_at_call 15; refine c8.calls0 (Hid.out (by first | assumption | exact txdrew (by assumption) : Hid (TX w w.heap.size K k u m v e (.slice A n q) L _))).atts ?_; intro w11 h11; have hp11 : Hid (TX w w.heap.size K k u m v e (.slice A n q) L w11) := txstep h11 (by first | assumption | exact txdrew (by assumption) : Hid (TX w w.heap.size K k u m v e (.slice A n q) L _)); clear h11)
      | (go_at_call 16; refine d1.calls0 (Hid.out (by first | assumption | exact txdrew (by assumption) : Hid (TX w w.heap.size K k u m v e (.slice A n q) L _))).atts ?_; intro w12 h12; have hp12 : Hid (TX w w.heap.size K k u m v e (.slice A n q) L w12) := txstep h12 (by first | assumption | exact txdrew (by assumption) : Hid (TX w w.heap.size K k u m v e (.slice A n q) L _)); clear h12)
      | (go_at_call 17; refine d2.calls0 (Hid.out (by first | assumption | exact txdrew (by assumption) : Hid (TX w w.heap.size K k u m v e (.slice A n q) L _))).atts ?_; intro w13 h13; have hp13 : Hid (TX w w.heap.size K k u m v e (.slice A n q) L w13) := txstep h13 (by first | assumption | exact txdrew (by assumption) : Hid (TX w w.heap.size K k u m v e (.slice A n q) L _)); clear h13)
      | (go_at_call 6; refine c9.calls0 (Hid.out (by first | assumption | exact txdrew (by assumption) : Hid (TX w w.heap.size K k u m v e (.slice A n q) L _))).hb.tabs ?_; intro w14 h14; have hp14 : Hid (TX w w.heap.size K k u m v e (.slice A n q) L w14) := txstep h14 (by first | assumption | exact txdrew (by assumption) : Hid (TX w w.heap.size K k u m v e (.slice A n q) L _)); clear h14))
  all_goals
    go_wp2_with fail
    go_ret
    exact ⟨rfl, hp14.out.hb.since⟩
set_option maxRecDepth 100000 in
set_option maxHeartbeats 4000000 in
theorem big_1 (w : World) (K : Int) (k : ByteArray) (A : Option Addr) (n q : Nat) (L : List A2) (u m v e : ByteArray) (op : ByteArray) (tr : Bool) (hx : AttsS w (.slice A n q) L) (c0 : RdA 5 L (fun x => #[rv K k u m v e x]) (.bool false)) (hT : Table.Tabs w) :
    Calls Tryd.prog 3 #[.agg #[.int .i64 K, .string k, .slice A n q, .string u, .string m, .string v, .string e], .string op, .bool tr] w fun x w' => x = .returned (.bool true) ∧ Since w w' := by
  have hp := Lib.hid (tx_new (K := K) (k := k) (u := u) (m := m) (v := v) (e := e) hT hx)
  have c9 := awake_k
  obtain ⟨_, m0, m1, m2, m3, m4, m5, m6⟩ := tx7 hp
  clear hx hT
  go_enter Tryd.func3, Tryd.ntmps3
  go_wp2_with fail
  clear m0 m1 m2 m3 m4 m5 m6
  refine (c0.calls0 hp.out.atts) ?_
  intro w1 h1
  replace hp := txstep (by first | exact h1 | exact (Since.alloc (Since.refl _) _).step h1) hp
  clear h1
  go_wp2_with fail
  refine (c9.calls0 hp.out.hb.tabs) ?_
  intro w9 h9
  replace hp := txstep (by first | exact h9 | exact (Since.alloc (Since.refl _) _).step h9) hp
  clear h9
  go_wp2_with fail
  go_ret
  exact ⟨rfl, hp.out.hb.since⟩
set_option maxRecDepth 100000 in
set_option maxHeartbeats 4000000 in
theorem big_2 (w : World) (K : Int) (k : ByteArray) (A : Option Addr) (n q : Nat) (L : List A2) (u m v e : ByteArray) (op : ByteArray) (tr : Bool) (hx : AttsS w (.slice A n q) L) (l2 : 100 < op.size) (c0 : RdA 5 L (fun x => #[rv K k u m v e x]) (.bool true)) (hT : Table.Tabs w) :
    Calls Tryd.prog 3 #[.agg #[.int .i64 K, .string k, .slice A n q, .string u, .string m, .string v, .string e], .string op, .bool tr] w fun x w' => x = .returned (.bool true) ∧ Since w w' := by
  have t2 : decide ((100 : Int) < (op.size : Int)) = true := decide_eq_true (by omega)
  clear l2
  have hp := Lib.hid (tx_new (K := K) (k := k) (u := u) (m := m) (v := v) (e := e) hT hx)
  have c9 := awake_k
  obtain ⟨_, m0, m1, m2, m3, m4, m5, m6⟩ := tx7 hp
  clear hx hT
  go_enter Tryd.func3, Tryd.ntmps3
  go_wp2_with fail
  clear m0 m1 m2 m3 m4 m5 m6
  refine (c0.calls0 hp.out.atts) ?_
  intro w1 h1
  replace hp := txstep (by first | exact h1 | exact (Since.alloc (Since.refl _) _).step h1) hp
  clear h1
  go_wp2_with fail
  refine (c9.calls0 hp.out.hb.tabs) ?_
  intro w9 h9
  replace hp := txstep (by first | exact h9 | exact (Since.alloc (Since.refl _) _).step h9) hp
  clear h9
  go_wp2_with fail
  go_ret
  exact ⟨rfl, hp.out.hb.since⟩
set_option maxRecDepth 100000 in
theorem walk (w : World) (K : Int) (k : ByteArray) (A : Option Addr) (n q : Nat) (L : List A2) (u m v e : ByteArray) (op : ByteArray) (tr : Bool) (_f1 : (Lit.int .i64 K).wf = true) (_f2 : k.size ≤ maxLen) (hx : AttsS w (.slice A n q) L) (_f3 : n = L.length) (_f4 : ∀ p ∈ L, (Lit.int .i64 p.1).wf = true ∧ p.2.size ≤ maxLen) (_f5 : u.size ≤ maxLen) (_f6 : m.size ≤ maxLen) (_f7 : v.size ≤ maxLen) (_f8 : e.size ≤ maxLen) (_f9 : op.size ≤ maxLen) (hT : Table.Tabs w) :
    Calls Tryd.prog 3 #[.agg #[.int .i64 K, .string k, .slice A n q, .string u, .string m, .string v, .string e], .string op, .bool tr] w fun x w' => x = .returned (.bool true) ∧ Below w.heap.size w w' := by
  have c0 := plain_rd K k u m v e L
  cases hb : plainB k u m v e L with
  | false => rw [hb] at c0; exact big_1 w K k A n q L u m v e op tr hx c0 hT
  | true =>
    rw [hb] at c0
    by_cases l2 : 100 < op.size
    · exact big_2 w K k A n q L u m v e op tr hx l2 c0 hT
    · exact core w K k A n q L u m v e op tr hx (by omega) c0 _ (of_k u m v e) (rof_mk u m v e) ops_mk rops_mk _ (may_rd K k u m v e L op (of_k u m v e)) (rmay_rd K k u m v e L op) _ (exp_rd K k u m v e L) (rexp_rd K k u m v e L) _ (lea_rd K k u m v e L tr) (rlea_rd K k u m v e L tr) hT

set_option maxRecDepth 100000 in
theorem own : ownKnob Tryd.prog.godebug = none := by kernel_rfl
set_option maxRecDepth 100000 in
theorem laidOut : laidOutB Tryd.prog = true := by kernel_rfl

def laidL {H : Type} : List (String × DataW H) := [("claviger/table.lines", Rows.laid_claviger_table_lines)]
set_option maxRecDepth 100000 in
theorem door_met (os : Os) (args : Array Value) : laidMetH Tryd.prog laidL ((World.doorLaid Tryd.prog 400 os).forCall (fun _ _ => 0) ⟨#[], args, []⟩).memory :=
  laidMetH_of_parts3 (fuel := 8) (laidMet_of_run' 8 (by kernel_rfl) (by kernel_rfl)) (by kernel_rfl) (by kernel_rfl)
set_option maxRecDepth 100000 in
theorem lifted (os : Os) (started : os.Started) (H : Type) (enc : TypeId × Value → H) :
    ReturnsInHanded {} Tryd.checked os 3 .any (fun w args => (Rows.usageTellsSpec.pre enc Tryd.prog Tryd.f3 [] false w args ∧ laidMetH Tryd.prog laidL w) ∧ sizedMet enc Tryd.prog Tryd.f3 (OpenSpec.ofChange Rows.usageTellsSpec) false w args)
      (Rows.usageTellsSpec.post enc Tryd.prog Tryd.f3 false true false false) := by
  refine returnsInHanded_of_change_and (C := Tryd.checked) (X := fun w _ => laidMetH Tryd.prog laidL w) (fun _ _ _ hh h => h.of_heap hh) own started (by kernel_rfl) Tryd.func3
    (ChangeSpec.witness_shaped (enc := enc) (C := Tryd.checked) (os := os) (X := fun w _ => laidMetH Tryd.prog laidL w) false (World.doorLaid Tryd.prog 400 os) #[.agg #[.int .i64 0, .string ⟨#[]⟩, .slice none 0 0, .string ⟨#[]⟩, .string ⟨#[]⟩, .string ⟨#[]⟩, .string ⟨#[]⟩], .string ⟨#[]⟩, .bool false] 8 rfl (World.shaped_of_RefB (by kernel_rfl) (by kernel_rfl)) (by kernel_rfl) (by kernel_rfl) (by kernel_rfl) (door_met os _)) ?_
  intro W base args ds gs before hval0 hW _ _ hL _
  have hval : ∀ (j : Nat) t v, Tryd.f3.params[j]? = some t → args[j]? = some v → Value.okWide Tryd.prog W .any base t v := hval0
  have hW' := hW
  obtain ⟨p, q, hA0, hV, rfl, hfz, hnd⟩ := hW
  have hA : DataW.TrodAll enc Tryd.prog W 0 (fun _ => true) true Tryd.f3.params.toList args.toList ds p := hA0
  rw [Tryd.params3] at hA hval
  obtain ⟨v0, vs0, d0, ds0, p0, q0, hargs, rfl, rfl, h0, r0⟩ := trodAll_cons hA
  obtain ⟨v1, vs1, d1, ds1, p1, q1, rfl, rfl, rfl, h1, r1⟩ := trodAll_cons r0
  obtain ⟨v2, vs2, d2, ds2, p2, q2, rfl, rfl, rfl, h2, r2⟩ := trodAll_cons r1
  obtain ⟨rfl, rfl, rfl⟩ := trodAll_nil r2
  obtain rfl : args = #[v0, v1, v2] := by cases args; simp_all
  obtain ⟨rfl, rfl⟩ := trodVars_none hV
  have h0k := h0
  have hlt0 : ∀ x ∈ p0, x.block < W.heap.size := fun x hx => by simpa using hW'.lt x (by simp [hx])
  obtain ⟨a0_K, a0_k, a0_A, a0_n, a0_q, a0_L, a0_u, a0_m, a0_v, a0_e, rfl, f0_0, f0_1, f0_2, f0_3, f0_4, f0_5, f0_6, f0_7, f0_8⟩ := Rec.record_arg (hval 0 26 v0 rfl rfl) h0 hlt0
  obtain ⟨a1, rfl, rfl, rfl, w1⟩ := Go.ChangeMaps.open_string Tryd.underlying9 (hval 1 9 v1 rfl rfl) h1
  obtain ⟨a2, rfl, rfl, rfl⟩ := open_bool Tryd.underlying4 (hval 2 4 v2 rfl rfl) h2
  clear hA0 hval0
  simp only [List.append_nil] at hW'
  refine (walk W a0_K a0_k a0_A a0_n a0_q a0_L a0_u a0_m a0_v a0_e a1 a2 f0_0 f0_1 f0_2 f0_3 f0_4 f0_5 f0_6 f0_7 f0_8 w1 (Table.tabs_of hL)).mono fun e W' ⟨he, hg⟩ => ?_
  subst he
  exact ⟨_, rfl, _, _, _, _, _, [], hW', (trodAll_cons_mk (shut_bool Tryd.underlying4 _) trodAll_mk0), (trodAll_cons_mk (Below.trod laidOut (by kernel_rfl) (of_decide_eq_true (by kernel_rfl)) h0k hg hlt0) (trodAll_cons_mk (Go.ChangeMaps.shut_string Tryd.underlying9 w1) (trodAll_cons_mk (shut_bool Tryd.underlying4 _) trodAll_mk0))), rfl, hg.frame _, fun h => by cases h⟩

set_option maxRecDepth 100000 in
theorem over : Rows.usageTellsRow.holds Tryd.pinned (OpenSpec.ofChange Rows.usageTellsSpec) :=
  OpenClaim.holds_of_wide 3 Tryd.f3 rfl rfl rfl rfl rfl rfl rfl ⟨rfl, rfl, rfl, rfl, rfl⟩ rfl rfl rfl rfl rfl (by kernel_rfl) Tryd.func3 (by kernel_rfl)
    (of_decide_eq_true (by kernel_rfl)) (by unfold Func.isWrapper; first | (rw [if_pos (by decide +kernel)]; kernel_rfl) | (rw [if_neg (by decide +kernel)]; exact ⟨rfl, rfl⟩))
    (fun os started H enc _ => lifted os started H enc)

set_option maxRecDepth 100000 in
theorem proved : Rows.UsageTellsCardSaid :=
  Claim7.holds_tied_plain_at .later [] [.data] true Rows.usageTellsCard.stood.harness false
    over (fun _ h => by cases h) (by kernel_rfl) (fun _ h => by cases h) usageTells_row_tie rfl ⟨rfl, rfl⟩ (by kernel_rfl) rfl
    (fun f fn hf hfn => by
      obtain rfl : f = 3 := Option.some.inj ((show Tryd.prog.funcNamed "claviger/clavigerlaw41.UsageTells" = some 3 by kernel_rfl).symm.trans hf) |>.symm
      obtain rfl : fn = Tryd.f3 := (Option.some.inj (Tryd.func3.symm.trans hfn)).symm
      exact ⟨by kernel_rfl, fun j t ht => by
        rw [Tryd.params3] at ht
        have hm : t ∈ [26, 9, 4] := by simpa using Array.mem_of_getElem? ht
        have hall : ([26, 9, 4].all fun u => !Tryd.prog.wantsStandIn u) = true := by kernel_rfl
        exact (show Tryd.prog.wantsStandIn t = false by simpa using List.all_eq_true.1 hall t hm)⟩)
    (by kernel_rfl)

end Go.Proofs.YtddlaafpianjbaaDoor.usageTells
