/- The law KcvParts: any key is split, any parts are combined, as the document says; no conditions. -/
import Derived.Test.YtgfdomdbjiflmaaDoorRows
import Derived.WalkKit
import Derived.ProofKit
import Derived.OpenShut
import Derived.Lib.Hide
import Derived.Test.YtgfdomdbjiflmaaDoorDj51
import Derived.Test.YtgfdomdbjiflmaaDoorCards
import Derived.Test.YtgfdomdbjiflmaaDoorTie
import Derived.LaidMore
import Derived.SevenTiedAt
import Derived.Stop.Joined
import Derived.Lay
namespace Go.Proofs.YtgfdomdbjiflmaaDoor.kcvParts
open Go.ChangeShapes Go.WideShapes Go.ChangeAt Go.RowKit
open Kcv Kind Plain

set_option maxRecDepth 100000 in
set_option maxHeartbeats 8000000 in
theorem core (w : World) (key : ByteArray) (A : Option Addr) (n q : Nat) (l L : List ByteArray) (E G : Int) (C : ByteArray) (hx : StrsS w (.slice A n q) l) (l1 : key.size ≤ 200) (c0 : RdSh l 20 200 true)
    (c1 : SplA 29 key l L E) (c2 : SplA 30 key l L E) (c3 : RdQ 31 l (fun x => #[x]) (.tuple #[.string C, .int .i64 G])) (c4 : RdQ 32 l (fun x => #[x]) (.tuple #[.string C, .int .i64 G])) (hT : Tab2 w) :
    Calls Tryd.prog 6 #[.string key, .slice A n q] w fun x w' => x = .returned (.bool true) ∧ Since w w' := by
  have t1 : decide ((200 : Int) < (key.size : Int)) = false := decide_eq_false (by omega)
  have HX := Lib.hid hx
  have HS := Lib.hid (Since.refl w)
  have HT := Lib.hid hT
  have c9 := awake_k
  have b1 : (E == E) = true := beq_self_eq_true E
  have b2 : (G == G) = true := beq_self_eq_true G
  have b3 : (C.toList == C.toList) = true := beq_self_eq_true _
  clear l1 hx hT
  go_enter Tryd.func6, Tryd.ntmps6
  go_wp2_with fail
  refine c0.calls HX.out ?_
  go_wp2_with fail
  refine c1.calls0 HX.out ?_
  intro v1 w1 ho h1
  have HV1 := Lib.hid (own_strs ho)
  replace HX := Lib.hid (HX.out.since h1)
  replace HT := Lib.hid (Kp.keep HT.out h1)
  replace HS := Lib.hid (HS.out.step h1)
  clear ho h1
  go_wp2_with fail
  refine c2.calls0 HX.out ?_
  intro v2 w2 ho h2
  have HV2 := Lib.hid (own_strs ho)
  replace HX := Lib.hid (HX.out.since h2)
  replace HV1 := Lib.hid (HV1.out.since h2)
  replace HT := Lib.hid (Kp.keep HT.out h2)
  replace HS := Lib.hid (HS.out.step h2)
  clear ho h2
  go_wp2_with fail
  refine c3.calls0 HX.out ?_
  intro w3 h3
  replace HX := Lib.hid (HX.out.since h3)
  replace HV1 := Lib.hid (HV1.out.since h3)
  replace HV2 := Lib.hid (HV2.out.since h3)
  replace HT := Lib.hid (Kp.keep HT.out h3)
  replace HS := Lib.hid (HS.out.step h3)
  clear h3
  go_wp2_with fail
  refine c4.calls0 HX.out ?_
  intro w4 h4
  replace HV1 := Lib.hid (HV1.out.since h4)
  replace HV2 := Lib.hid (HV2.out.since h4)
  replace HT := Lib.hid (Kp.keep HT.out h4)
  replace HS := Lib.hid (HS.out.step h4)
  clear h4 HX
  go_wp2_with fail
  refine (equals _ _ _ L L HV1.out HV2.out).mono ?_
  rintro e w5 ⟨rfl, h5⟩
  rw [decide_eq_true (rfl : L = L)]
  replace HT := Lib.hid (Kp.keep HT.out h5)
  replace HS := Lib.hid (HS.out.step h5)
  clear h5 HV1 HV2
  go_wp2_with fail
  refine c9.calls0 HT.out ?_
  intro w6 h6
  replace HS := Lib.hid (HS.out.step h6)
  go_wp2_with fail
  go_ret
  exact ⟨rfl, HS.out⟩
set_option maxRecDepth 100000 in
theorem big_1 (w : World) (key : ByteArray) (A : Option Addr) (n q : Nat) (l1 : 200 < key.size) (hT : Tab2 w) :
    Calls Tryd.prog 6 #[.string key, .slice A n q] w fun x w' => x = .returned (.bool true) ∧ Since w w' := by
  have t1 : decide ((200 : Int) < (key.size : Int)) = true := decide_eq_true (by omega)
  have HS := Lib.hid (Since.refl w)
  have c9 := awake_k
  clear l1
  go_enter Tryd.func6, Tryd.ntmps6
  go_wp2_with fail
  refine (c9.calls0 hT) ?_
  intro w1 h1
  replace HS := Lib.hid (HS.out.step (by first | exact h1 | exact (Since.alloc (Since.refl _) _).step h1 | exact (Since.alloc (Since.alloc (Since.refl _) _) _).step h1 | exact (Since.drew (Since.refl _)).step h1 | exact (Since.alloc (Since.alloc (Since.alloc (Since.refl _) _) _) _).step h1))
  clear h1
  go_wp2_with fail
  go_ret
  exact ⟨rfl, HS.out⟩
set_option maxRecDepth 100000 in
theorem big_2 (w : World) (key : ByteArray) (A : Option Addr) (n q : Nat) (l : List ByteArray) (hx : StrsS w (.slice A n q) l) (l1 : key.size ≤ 200) (c0 : RdSh l 20 200 false) (hT : Tab2 w) :
    Calls Tryd.prog 6 #[.string key, .slice A n q] w fun x w' => x = .returned (.bool true) ∧ Since w w' := by
  have t1 : decide ((200 : Int) < (key.size : Int)) = false := decide_eq_false (by omega)
  have HS := Lib.hid (Since.refl w)
  have HX := Lib.hid hx
  have c9 := awake_k
  clear l1 hx
  go_enter Tryd.func6, Tryd.ntmps6
  go_wp2_with fail
  refine c0.calls HX.out ?_
  go_wp2_with fail
  refine (c9.calls0 hT) ?_
  intro w1 h1
  replace HS := Lib.hid (HS.out.step (by first | exact h1 | exact (Since.alloc (Since.refl _) _).step h1 | exact (Since.alloc (Since.alloc (Since.refl _) _) _).step h1 | exact (Since.drew (Since.refl _)).step h1 | exact (Since.alloc (Since.alloc (Since.alloc (Since.refl _) _) _) _).step h1))
  clear h1
  go_wp2_with fail
  go_ret
  exact ⟨rfl, HS.out⟩
set_option maxRecDepth 100000 in
theorem walk (w : World) (key : ByteArray) (A : Option Addr) (n q : Nat) (l : List ByteArray) (_w0 : key.size ≤ maxLen) (hx : StrsS w (.slice A n q) l) (_hn : n = l.length) (_hl : ∀ s ∈ l, s.size ≤ maxLen) (hT : Tab2 w) :
    Calls Tryd.prog 6 #[.string key, .slice A n q] w fun x w' => x = .returned (.bool true) ∧ Below w.heap.size w w' := by
  by_cases l1 : 200 < key.size
  · exact big_1 w key A n q l1 hT
  have c0 := shorts_rd l 20 200 _ rfl
  cases hq : shortsB l 20 200 with
  | false => rw [hq] at c0; exact big_2 w key A n q l hx (by omega) c0 hT
  | true =>
    rw [hq] at c0
    obtain ⟨h1, h2⟩ := shortsB_spec l 20 200 hq
    have h3 : ∀ p ∈ l, p.size ≤ 100000 := fun p hp => by have := h2 p hp; omega
    exact core w key A n q l _ _ _ _ hx (by omega) c0 (split_any key (by omega) l) (rsplit_any key (by omega) l) (comb_any l h3) (rcomb_any l h3) hT

set_option maxRecDepth 100000 in
theorem own : ownKnob Tryd.prog.godebug = none := by kernel_rfl
set_option maxRecDepth 100000 in
theorem laidOut : laidOutB Tryd.prog = true := by kernel_rfl

def laidL : List (String × DataW Unit) := [("unicode/utf8.acceptRanges", Rows.laid_unicode_utf8_acceptRanges), ("claviger/curve.lines", Rows.laid_claviger_curve_lines), ("claviger/kind.lines", Rows.laid_claviger_kind_lines), ("unicode/utf8.first", Rows.laid_unicode_utf8_first)]
set_option maxRecDepth 100000 in
theorem lifted (os : Os) (started : os.Started) (H : Type) (enc : TypeId × Value → H) :
    ReturnsInHanded {} Tryd.checked os 6 .any (fun w args => (Rows.kcvPartsSpec.pre enc Tryd.prog Tryd.f6 [] false w args ∧ laidMetH Tryd.prog laidL w) ∧ sizedMet enc Tryd.prog Tryd.f6 (OpenSpec.ofChange Rows.kcvPartsSpec) false w args)
      (Rows.kcvPartsSpec.post enc Tryd.prog Tryd.f6 false true false false) := by
  refine returnsInHanded_of_change_and (C := Tryd.checked) (X := fun w _ => laidMetH Tryd.prog laidL w) (fun _ _ _ hh h => h.of_heap hh) own started (by kernel_rfl) Tryd.func6
    (ChangeSpec.witness_shaped (enc := enc) (C := Tryd.checked) (os := os) (X := fun w _ => laidMetH Tryd.prog laidL w) false (World.laidAll Tryd.prog os laidL) #[.string ⟨#[]⟩, .slice none 0 0] 8 (World.laidAll_os _ _ _) (World.shaped_of_ZipB (by kernel_rfl) (by kernel_rfl)) (by kernel_rfl) (by kernel_rfl) (by kernel_rfl) (by rw [MakeChecks.laidMetH_plain _ _ _ (by kernel_rfl)]; exact laidMet_laidAll _ (by kernel_rfl) (by kernel_rfl))) ?_
  intro W base args ds gs before hval0 hW _ _ hL _
  have hval : ∀ (j : Nat) t v, Tryd.f6.params[j]? = some t → args[j]? = some v → Value.okWide Tryd.prog W .any base t v := hval0
  have hW' := hW
  obtain ⟨p, q, hA0, hV, rfl, hfz, hnd⟩ := hW
  have hA : DataW.TrodAll enc Tryd.prog W 0 (fun _ => true) true Tryd.f6.params.toList args.toList ds p := hA0
  rw [Tryd.params6] at hA hval
  obtain ⟨v0, vs0, d0, ds0, p0, q0, hargs, rfl, rfl, h0, r0⟩ := trodAll_cons hA
  obtain ⟨v1, vs1, d1, ds1, p1, q1, rfl, rfl, rfl, h1, r1⟩ := trodAll_cons r0
  obtain ⟨rfl, rfl, rfl⟩ := trodAll_nil r1
  obtain rfl : args = #[v0, v1] := by cases args; simp_all
  obtain ⟨rfl, rfl⟩ := trodVars_none hV
  obtain ⟨a0, rfl, rfl, rfl, w0⟩ := Go.ChangeMaps.open_string Tryd.underlying9 (hval 0 9 v0 rfl rfl) h0
  obtain ⟨a1, n1, c1, rfl⟩ := okWide_slice Tryd.underlying30 (hval 1 30 v1 rfl rfl)
  have h1k := h1
  obtain ⟨fuel1, hf1⟩ := h1
  have hlt1 : ∀ x ∈ p1, x.block < W.heap.size := fun x hx => by simpa using hW'.lt x (by simp [hx])
  obtain ⟨x1, lA1, lN1, lX1⟩ := strs_arg hf1 hlt1
  clear hA0 hval0
  simp only [List.append_nil] at hW'
  refine (walk W a0 a1 n1 c1 x1 w0 lA1 lN1 lX1 (Kind.tabs4_of hL)).mono fun e W' ⟨he, hg⟩ => ?_
  subst he
  exact ⟨_, rfl, _, _, _, _, _, [], hW', (trodAll_cons_mk (shut_bool Tryd.underlying4 _) trodAll_mk0), (trodAll_cons_mk (Go.ChangeMaps.shut_string Tryd.underlying9 w0) (trodAll_cons_mk (Below.trod laidOut (by kernel_rfl) (of_decide_eq_true (by kernel_rfl)) h1k hg hlt1) trodAll_mk0)), rfl, hg.frame _, fun h => by cases h⟩

set_option maxRecDepth 100000 in
theorem over : Rows.kcvPartsRow.holds Tryd.pinned (OpenSpec.ofChange Rows.kcvPartsSpec) :=
  OpenClaim.holds_of_wide 6 Tryd.f6 rfl rfl rfl rfl rfl rfl rfl ⟨rfl, rfl, rfl, rfl, rfl⟩ rfl rfl rfl rfl rfl (by kernel_rfl) Tryd.func6 (by kernel_rfl)
    (of_decide_eq_true (by kernel_rfl)) (by unfold Func.isWrapper; first | (rw [if_pos (by decide +kernel)]; kernel_rfl) | (rw [if_neg (by decide +kernel)]; exact ⟨rfl, rfl⟩))
    (fun os started H enc _ => lifted os started H enc)

set_option maxRecDepth 100000 in
theorem proved : Rows.KcvPartsCardSaid :=
  Claim7.holds_tied_plain_at .later [] [.data, .data, .data, .pinned] true Rows.kcvPartsCard.stood.harness false
    over (fun _ h => by cases h) (by kernel_rfl) (fun _ h => by cases h) kcvParts_row_tie rfl ⟨rfl, rfl⟩ (by kernel_rfl) rfl
    (fun f fn hf hfn => by
      obtain rfl : f = 6 := Option.some.inj ((show Tryd.prog.funcNamed "claviger/clavigerlaw45.KcvParts" = some 6 by kernel_rfl).symm.trans hf) |>.symm
      obtain rfl : fn = Tryd.f6 := (Option.some.inj (Tryd.func6.symm.trans hfn)).symm
      exact ⟨by kernel_rfl, fun j t ht => by
        rw [Tryd.params6] at ht
        have hm : t ∈ [9, 30] := by simpa using Array.mem_of_getElem? ht
        have hall : ([9, 30].all fun u => !Tryd.prog.wantsStandIn u) = true := by kernel_rfl
        exact (show Tryd.prog.wantsStandIn t = false by simpa using List.all_eq_true.1 hall t hm)⟩)
    (by kernel_rfl)

end Go.Proofs.YtgfdomdbjiflmaaDoor.kcvParts
