/- The law BlockBack: what is exported is imported as it was; what is not, is not right, or too long; no conditions. -/
import Derived.Test.YtddlaafpianjbaaGreatDoorRows
import Derived.WalkKit
import Derived.ProofKit
import Derived.OpenShut
import Derived.Lib.Hide
import Derived.Test.YtddlaafpianjbaaGreatDoorBb49
import Derived.Test.YtddlaafpianjbaaGreatDoorCards
import Derived.Test.YtddlaafpianjbaaGreatDoorTie
import Derived.LaidMore
import Derived.SevenTiedAt
import Derived.Stop.Joined
import Derived.Lay
namespace Go.Proofs.YtddlaafpianjbaaGreatDoor.blockBack
open Go.ChangeShapes Go.WideShapes Go.ChangeAt Go.RowKit
open Att Block



theorem bx14 {a b : World} {x y : Nat} {K1 K2 : Int} {k1 u1 m1 v1 e1 k2 u2 m2 v2 e2 : ByteArray} {x1 x2 : Value} {L1 L2 : List A2} {W : World} (h1 : Hid (BX a x K1 k1 u1 m1 v1 e1 x1 L1 W)) (h2 : Hid (BX b y K2 k2 u2 m2 v2 e2 x2 L2 W)) :
    Hid (BX a x K1 k1 u1 m1 v1 e1 x1 L1 W) ∧ Hid (BX b y K2 k2 u2 m2 v2 e2 x2 L2 W) ∧
    W.cell? ⟨x, 0, none⟩ = some (.int .i64 K1) ∧ W.cell? ⟨x, 1, none⟩ = some (.string k1) ∧ W.cell? ⟨x, 2, none⟩ = some (x1) ∧ W.cell? ⟨x, 3, none⟩ = some (.string u1) ∧ W.cell? ⟨x, 4, none⟩ = some (.string m1) ∧ W.cell? ⟨x, 5, none⟩ = some (.string v1) ∧ W.cell? ⟨x, 6, none⟩ = some (.string e1) ∧ W.cell? ⟨y, 0, none⟩ = some (.int .i64 K2) ∧ W.cell? ⟨y, 1, none⟩ = some (.string k2) ∧ W.cell? ⟨y, 2, none⟩ = some (x2) ∧ W.cell? ⟨y, 3, none⟩ = some (.string u2) ∧ W.cell? ⟨y, 4, none⟩ = some (.string m2) ∧ W.cell? ⟨y, 5, none⟩ = some (.string v2) ∧ W.cell? ⟨y, 6, none⟩ = some (.string e2) :=
  ⟨h1, h2, h1.out.hb.cell 0 _ rfl, h1.out.hb.cell 1 _ rfl, h1.out.hb.cell 2 _ rfl, h1.out.hb.cell 3 _ rfl, h1.out.hb.cell 4 _ rfl, h1.out.hb.cell 5 _ rfl, h1.out.hb.cell 6 _ rfl, h2.out.hb.cell 0 _ rfl, h2.out.hb.cell 1 _ rfl, h2.out.hb.cell 2 _ rfl, h2.out.hb.cell 3 _ rfl, h2.out.hb.cell 4 _ rfl, h2.out.hb.cell 5 _ rfl, h2.out.hb.cell 6 _ rfl⟩

set_option maxRecDepth 100000 in
set_option maxHeartbeats 8000000 in
theorem core_ok (kek : ByteArray) (w : World) (K : Int) (k : ByteArray) (A : Option Addr) (n q : Nat) (L : List A2) (u m v e : ByteArray) (pads : ByteArray) (hx : AttsS w (.slice A n q) L) (l1 : kek.size ≤ 100) (l2 : pads.size ≤ 200) (c0 : Rec.RdR 6 L (fun x => #[rv K k u m v e x]) (.bool true)) (X : ByteArray) (c1 : RdE 8 kek pads K k u m v e L (.tuple #[.string X, .int .i64 0])) (c2 : ImO 10 kek X K k u m v e L pads) (c3 : AlkT K k u m v e L)
    (Z : Int) (hZ : ((X.size : Int) == Z) = true) (c4 : RdB 13 L (fun x => #[rv K k u m v e x]) (.int .i64 Z)) (hT : K3 w) :
    Calls Tryz.prog 4 #[.string kek, .agg #[.int .i64 K, .string k, .slice A n q, .string u, .string m, .string v, .string e], .string pads] w fun x w' => x = .returned (.bool true) ∧ Since w w' := by
  have t1 : decide ((100 : Int) < (kek.size : Int)) = false := decide_eq_false (by omega)
  have t2 : decide ((200 : Int) < (pads.size : Int)) = false := decide_eq_false (by omega)
  have b5 : (pads.toList == pads.toList) = true := beq_self_eq_true _
  clear l1 l2
  have hp := Lib.hid (bx_new (K := K) (k := k) (u := u) (m := m) (v := v) (e := e) hT hx)
  have c9 := awake_k
  obtain ⟨_, m0, m1, m2, m3, m4, m5, m6⟩ := bx7 hp
  clear hx hT
  go_enter Tryz.func4, Tryz.ntmps4
  go_wp2_with fail
  clear m0 m1 m2 m3 m4 m5 m6
  refine (c0.calls0 hp.out.hb.tabs.t2 hp.out.atts) ?_
  intro w1 h1
  replace hp := bxstep (by first | exact h1 | exact (Since.alloc (Since.refl _) _).step h1) hp
  clear h1
  obtain ⟨_, m0, m1, m2, m3, m4, m5, m6⟩ := bx7 hp
  go_wp2_with fail
  clear m0 m1 m2 m3 m4 m5 m6
  refine (c1.calls0 hp.out.hb.tabs hp.out.atts) ?_
  intro w2 h2
  replace hp := bxstep (by first | exact h2 | exact (Since.alloc (Since.refl _) _).step h2) hp
  clear h2
  obtain ⟨_, m0, m1, m2, m3, m4, m5, m6⟩ := bx7 hp
  go_wp2_with fail
  clear m0 m1 m2 m3 m4 m5 m6
  refine (c2 _ hp.out.hb.tabs).mono ?_
  rintro x w3 ⟨a2, rfl, ha, h3⟩
  replace hp := bxstep h3 hp
  obtain ⟨A2, d2, hav, _⟩ := ha.slice
  subst hav
  unfold R7
  have hq := Lib.hid (bx_new (K := K) (k := k) (u := u) (m := m) (v := v) (e := e) hp.out.hb.tabs ha)
  replace hp := bxstep hq.out.hb.since hp
  clear h3 ha
  obtain ⟨_, m0, m1, m2, m3, m4, m5, m6⟩ := bx7 hp
  obtain ⟨_, n0, n1, n2, n3, n4, n5, n6⟩ := bx7 hq
  go_wp2_with fail
  clear m0 m1 m2 m3 m4 m5 m6 n0 n1 n2 n3 n4 n5 n6
  refine (c3.calls0 hp.out.atts hq.out.atts) ?_
  intro w4 h4
  replace hp := bxstep (by first | exact h4 | exact (Since.alloc (Since.refl _) _).step h4) hp
  clear h4
  obtain ⟨_, m0, m1, m2, m3, m4, m5, m6⟩ := bx7 hp
  go_wp2_with fail
  clear m0 m1 m2 m3 m4 m5 m6
  refine (c4.calls0 hp.out.hb.tabs hp.out.atts) ?_
  intro w5 h5
  replace hp := bxstep (by first | exact h5 | exact (Since.alloc (Since.refl _) _).step h5) hp
  clear h5
  go_wp2_with fail
  refine (c9.calls0 hp.out.hb.tabs) ?_
  intro w6 h6
  replace hp := bxstep (by first | exact h6 | exact (Since.alloc (Since.refl _) _).step h6) hp
  clear h6
  go_wp2_with fail
  go_ret
  exact ⟨rfl, hp.out.hb.since⟩

theorem head_sizes {u m v e : ByteArray} (h : Plain.headB u m v e = true) : u.size ≤ 100 ∧ m.size ≤ 100 ∧ v.size ≤ 100 ∧ e.size ≤ 100 := by
  unfold Plain.headB at h
  simp only [Bool.and_eq_true, decide_eq_true_eq] at h
  omega
set_option maxRecDepth 100000 in
theorem walk (w : World) (kek : ByteArray) (K : Int) (k : ByteArray) (A : Option Addr) (n q : Nat) (L : List A2) (u m v e : ByteArray) (pads : ByteArray) (_f0 : kek.size ≤ maxLen) (_f1 : (Lit.int .i64 K).wf = true) (_f2 : k.size ≤ maxLen) (hx : AttsS w (.slice A n q) L) (_f3 : n = L.length) (_f4 : ∀ p ∈ L, (Lit.int .i64 p.1).wf = true ∧ p.2.size ≤ maxLen) (_f5 : u.size ≤ maxLen) (_f6 : m.size ≤ maxLen) (_f7 : v.size ≤ maxLen) (_f8 : e.size ≤ maxLen) (_f9 : pads.size ≤ maxLen) (hT : K3 w) :
    Calls Tryz.prog 4 #[.string kek, .agg #[.int .i64 K, .string k, .slice A n q, .string u, .string m, .string v, .string e], .string pads] w fun x w' => x = .returned (.bool true) ∧ Below w.heap.size w w' := by
  by_cases l1 : 100 < kek.size
  · exact big_1 kek w K k A n q L u m v e pads hx l1 hT
  replace l1 : kek.size ≤ 100 := by omega
  have c0 := Rec.plain_rec K k u m v e L
  cases hb : Rec.plainB k u m v e L with
  | false => rw [hb] at c0; exact big_2 kek w K k A n q L u m v e pads hx l1 c0 hT
  | true =>
    rw [hb] at c0
    obtain ⟨h1, h2, h3⟩ := Rec.plain_small hb
    have hz := head_sizes h3
    by_cases l2 : 200 < pads.size
    · exact big_3 kek w K k A n q L u m v e pads hx l1 l2 c0 hT
    replace l2 : pads.size ≤ 200 := by omega
    have c1 := export_b kek pads K k u m v e L h1 l2 l1 hz
    by_cases hE : expE kek K k u m v e L pads = 0
    · obtain ⟨X, hX⟩ : ∃ X, X = expX kek K k u m v e L pads := ⟨_, rfl⟩
      have hB := back_of hE X hX
      have c2 := import_back kek K k u m v e pads L hE l1 X hX
      rw [← hX, hE] at c1
      exact core_ok kek w K k A n q L u m v e pads hx l1 l2 c0 X c1 c2 (alike_t _ _ _ _ _ _ _) _ (beq_iff_eq.2 hB.siz) (size_b K k u m v e L h1 hz) hT
    · have hX : expX kek K k u m v e L pads = ⟨#[]⟩ := by unfold expX; rw [if_neg hE]
      rw [hX] at c1
      have hE2 : (expE kek K k u m v e L pads != 0) = true := by rw [bne_iff_ne]; exact hE
      have d2 := Rec.rcheck_rec K k u m v e L (by omega) _ rfl
      by_cases h4 : Rec.recE K k L = 0
      · rw [h4] at d2
        have d3 := Kind.rletter_ret K (LT K) rfl
        have d4 := Table.rcheck_mak u m v e (LT K) (headE K u m v e) rfl
        by_cases h5 : headE K u m v e = 0
        · rw [h5] at d4
          have d5 := Load.rpads_ret K _ rfl
          by_cases h6 : (pads.size : Int) = Load.padsI (Kind.rowOf K)
          · by_cases h7 : Aes.keyOk kek
            · have hc : chkI K k u m v e L = 0 := by unfold chkI; rw [if_neg (fun h => h h4)]; exact h5
              have h8 : expE kek K k u m v e L pads = 4 := by
                have h9 : expE kek K k u m v e L pads = topI K u m v e L := by
                  unfold expE
                  rw [if_neg (fun h => h h7), if_neg (fun h => h hc), if_neg (fun h => h h6)]
                rw [h9] at hE ⊢
                rcases top_four hc h6 with h | h
                · exact absurd h hE
                · exact h
              rw [h8] at c1
              unfold Aes.keyOk at h7
              by_cases g1 : kek.size = 16
              · exact err_16 kek w K k A n q L u m v e pads hx l1 l2 c0 c1 d2 _ d3 d4 _ d5 (beq_iff_eq.2 h6) (beq_iff_eq.2 (by omega)) hT
              by_cases g2 : kek.size = 24
              · exact err_24 kek w K k A n q L u m v e pads hx l1 l2 c0 c1 d2 _ d3 d4 _ d5 (beq_iff_eq.2 h6) (beq_eq_false_iff_ne.2 (by omega)) (beq_iff_eq.2 (by omega)) hT
              · exact err_32 kek w K k A n q L u m v e pads hx l1 l2 c0 c1 d2 _ d3 d4 _ d5 (beq_iff_eq.2 h6) (beq_eq_false_iff_ne.2 (by omega)) (beq_eq_false_iff_ne.2 (by omega)) (beq_iff_eq.2 (by omega)) hT
            · unfold Aes.keyOk at h7
              exact err_key kek w K k A n q L u m v e pads hx l1 l2 c0 _ hE2 c1 d2 _ d3 d4 _ d5 (beq_iff_eq.2 h6) (beq_eq_false_iff_ne.2 (by omega)) (beq_eq_false_iff_ne.2 (by omega)) (beq_eq_false_iff_ne.2 (by omega)) hT
          · exact err_pad kek w K k A n q L u m v e pads hx l1 l2 c0 _ hE2 c1 d2 _ d3 d4 _ d5 (beq_eq_false_iff_ne.2 h6) hT
        · exact err_tab kek w K k A n q L u m v e pads hx l1 l2 c0 _ hE2 c1 d2 _ d3 _ (beq_eq_false_iff_ne.2 h5) d4 hT
      · exact err_rec kek w K k A n q L u m v e pads hx l1 l2 c0 _ hE2 c1 _ (beq_eq_false_iff_ne.2 h4) d2 hT

set_option maxRecDepth 100000 in
theorem own : ownKnob Tryz.prog.godebug = none := by kernel_rfl
set_option maxRecDepth 100000 in
theorem laidOut : laidOutB Tryz.prog = true := by kernel_rfl

def laidL : List (String × DataW Unit) := [("unicode/utf8.acceptRanges", Rows.laid_unicode_utf8_acceptRanges), ("claviger/curve.lines", Rows.laid_claviger_curve_lines), ("claviger/kind.lines", Rows.laid_claviger_kind_lines), ("claviger/table.lines", Rows.laid_claviger_table_lines), ("unicode/utf8.first", Rows.laid_unicode_utf8_first)]
set_option maxRecDepth 100000 in
theorem lifted (os : Os) (started : os.Started) (H : Type) (enc : TypeId × Value → H) :
    ReturnsInHanded {} Tryz.checked os 4 .any (fun w args => (Rows.blockBackSpec.pre enc Tryz.prog Tryz.f4 [] false w args ∧ laidMetH Tryz.prog laidL w) ∧ sizedMet enc Tryz.prog Tryz.f4 (OpenSpec.ofChange Rows.blockBackSpec) false w args)
      (Rows.blockBackSpec.post enc Tryz.prog Tryz.f4 false true false false) := by
  refine returnsInHanded_of_change_and (C := Tryz.checked) (X := fun w _ => laidMetH Tryz.prog laidL w) (fun _ _ _ hh h => h.of_heap hh) own started (by kernel_rfl) Tryz.func4
    (ChangeSpec.witness_shaped (enc := enc) (C := Tryz.checked) (os := os) (X := fun w _ => laidMetH Tryz.prog laidL w) false (World.laidAll Tryz.prog os laidL) #[.string ⟨#[]⟩, .agg #[.int .i64 0, .string ⟨#[]⟩, .slice none 0 0, .string ⟨#[]⟩, .string ⟨#[]⟩, .string ⟨#[]⟩, .string ⟨#[]⟩], .string ⟨#[]⟩] 8 (World.laidAll_os _ _ _) (World.shaped_of_ZipB (by kernel_rfl) (by kernel_rfl)) (by kernel_rfl) (by kernel_rfl) (by kernel_rfl) (by rw [MakeChecks.laidMetH_plain _ _ _ (by kernel_rfl)]; exact laidMet_laidAll _ (by kernel_rfl) (by kernel_rfl))) ?_
  intro W base args ds gs before hval0 hW _ _ hL _
  have hval : ∀ (j : Nat) t v, Tryz.f4.params[j]? = some t → args[j]? = some v → Value.okWide Tryz.prog W .any base t v := hval0
  have hW' := hW
  obtain ⟨p, q, hA0, hV, rfl, hfz, hnd⟩ := hW
  have hA : DataW.TrodAll enc Tryz.prog W 0 (fun _ => true) true Tryz.f4.params.toList args.toList ds p := hA0
  rw [Tryz.params4] at hA hval
  obtain ⟨v0, vs0, d0, ds0, p0, q0, hargs, rfl, rfl, h0, r0⟩ := trodAll_cons hA
  obtain ⟨v1, vs1, d1, ds1, p1, q1, rfl, rfl, rfl, h1, r1⟩ := trodAll_cons r0
  obtain ⟨v2, vs2, d2, ds2, p2, q2, rfl, rfl, rfl, h2, r2⟩ := trodAll_cons r1
  obtain ⟨rfl, rfl, rfl⟩ := trodAll_nil r2
  obtain rfl : args = #[v0, v1, v2] := by cases args; simp_all
  obtain ⟨rfl, rfl⟩ := trodVars_none hV
  obtain ⟨a0, rfl, rfl, rfl, w0⟩ := Go.ChangeMaps.open_string Tryz.underlying9 (hval 0 9 v0 rfl rfl) h0
  have h1k := h1
  have hlt1 : ∀ x ∈ p1, x.block < W.heap.size := fun x hx => by simpa using hW'.lt x (by simp [hx])
  obtain ⟨a1_K, a1_k, a1_A, a1_n, a1_q, a1_L, a1_u, a1_m, a1_v, a1_e, rfl, f1_0, f1_1, f1_2, f1_3, f1_4, f1_5, f1_6, f1_7, f1_8⟩ := Rec.record_arg (hval 1 26 v1 rfl rfl) h1 hlt1
  obtain ⟨a2, rfl, rfl, rfl, w2⟩ := Go.ChangeMaps.open_string Tryz.underlying9 (hval 2 9 v2 rfl rfl) h2
  clear hA0 hval0
  simp only [List.append_nil] at hW'
  refine (walk W a0 a1_K a1_k a1_A a1_n a1_q a1_L a1_u a1_m a1_v a1_e a2 w0 f1_0 f1_1 f1_2 f1_3 f1_4 f1_5 f1_6 f1_7 f1_8 w2 (Block.tabs5_of hL)).mono fun e W' ⟨he, hg⟩ => ?_
  subst he
  exact ⟨_, rfl, _, _, _, _, _, [], hW', (trodAll_cons_mk (shut_bool Tryz.underlying4 _) trodAll_mk0), (trodAll_cons_mk (Go.ChangeMaps.shut_string Tryz.underlying9 w0) (trodAll_cons_mk (Below.trod laidOut (by kernel_rfl) (of_decide_eq_true (by kernel_rfl)) h1k hg hlt1) (trodAll_cons_mk (Go.ChangeMaps.shut_string Tryz.underlying9 w2) trodAll_mk0))), rfl, hg.frame _, fun h => by cases h⟩

set_option maxRecDepth 100000 in
theorem over : Rows.blockBackRow.holds Tryz.pinned (OpenSpec.ofChange Rows.blockBackSpec) :=
  OpenClaim.holds_of_wide 4 Tryz.f4 rfl rfl rfl rfl rfl rfl rfl ⟨rfl, rfl, rfl, rfl, rfl⟩ rfl rfl rfl rfl rfl (by kernel_rfl) Tryz.func4 (by kernel_rfl)
    (of_decide_eq_true (by kernel_rfl)) (by unfold Func.isWrapper; first | (rw [if_pos (by decide +kernel)]; kernel_rfl) | (rw [if_neg (by decide +kernel)]; exact ⟨rfl, rfl⟩))
    (fun os started H enc _ => lifted os started H enc)

set_option maxRecDepth 100000 in
theorem proved : Rows.BlockBackCardSaid :=
  Claim7.holds_tied_plain_at .later [] [.data, .data, .data, .data, .pinned] true Rows.blockBackCard.stood.harness false
    over (fun _ h => by cases h) (by kernel_rfl) (fun _ h => by cases h) blockBack_row_tie rfl ⟨rfl, rfl⟩ (by kernel_rfl) rfl
    (fun f fn hf hfn => by
      obtain rfl : f = 4 := Option.some.inj ((show Tryz.prog.funcNamed "claviger/clavigerlaw39.BlockBack" = some 4 by kernel_rfl).symm.trans hf) |>.symm
      obtain rfl : fn = Tryz.f4 := (Option.some.inj (Tryz.func4.symm.trans hfn)).symm
      exact ⟨by kernel_rfl, fun j t ht => by
        rw [Tryz.params4] at ht
        have hm : t ∈ [9, 26, 9] := by simpa using Array.mem_of_getElem? ht
        have hall : ([9, 26, 9].all fun u => !Tryz.prog.wantsStandIn u) = true := by kernel_rfl
        exact (show Tryz.prog.wantsStandIn t = false by simpa using List.all_eq_true.1 hall t hm)⟩)
    (by kernel_rfl)

end Go.Proofs.YtddlaafpianjbaaGreatDoor.blockBack
