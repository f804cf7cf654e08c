/- The law LoadTells: any key and pads make the payload, any payload has the key, as the document says, or why not; no conditions. -/
import Derived.Test.YtpakifiphdlkoaaDoorRows
import Derived.WalkKit
import Derived.ProofKit
import Derived.OpenShut
import Derived.Lib.Hide
import Derived.Lay
import Derived.SevenTiedAt
import Derived.LaidOnce
import Derived.LaidMore
import Derived.Stop.Joined
import Derived.Test.YtpakifiphdlkoaaDoorTie
import Derived.Test.YtpakifiphdlkoaaDoorCards
import Derived.Test.YtpakifiphdlkoaaDoorPk25
namespace Go.Proofs.YtpakifiphdlkoaaDoor.loadTells
open Go.ChangeShapes Go.WideShapes Go.ChangeAt Go.RowKit
open Kind Load

set_option maxRecDepth 100000 in
set_option maxHeartbeats 4000000 in
theorem core (w : World) (hT : Tab2 w) (no : Int) (key pads l s : ByteArray) (l1 : key.size ≤ 200) (l2 : pads.size ≤ 200) (l3 : l.size ≤ 20) (l4 : s.size ≤ 200) (X x p : ByteArray) (E F k T P : Int)
    (c1 : KMk Tab2 46 #[.int .i64 no, .string key, .string pads] (.tuple #[.string X, .int .i64 E])) (c2 : Mak 47 #[.int .i64 no, .string key, .string pads] (.tuple #[.string X, .int .i64 E]))
    (c3 : KMk Tab2 48 #[.string l, .string s] (.tuple #[.int .i64 k, .string x, .string p, .int .i64 F])) (c4 : Mak 49 #[.string l, .string s] (.tuple #[.int .i64 k, .string x, .string p, .int .i64 F]))
    (c5 : KMk Tab2 50 #[.string l] (.int .i64 T)) (c6 : Ret 51 #[.string l] (.int .i64 T)) (c7 : KMk Tab2 52 #[.int .i64 no] (.int .i64 P)) (c8 : Ret 53 #[.int .i64 no] (.int .i64 P)) :
    Calls Tryd.prog 8 #[.int .i64 no, .string key, .string pads, .string l, .string s] w fun x w' => x = .returned (.bool true) ∧ Since w w' := by
  have HS := Lib.hid (Since.refl w)
  have HT := Lib.hid hT
  have t1 : decide ((200 : Int) < (key.size : Int)) = false := decide_eq_false (by omega)
  have t2 : decide ((200 : Int) < (pads.size : Int)) = false := decide_eq_false (by omega)
  have t3 : decide ((20 : Int) < (l.size : Int)) = false := decide_eq_false (by omega)
  have t4 : decide ((200 : Int) < (s.size : Int)) = false := decide_eq_false (by omega)
  have t5 : (X.toList == X.toList) = true := beq_self_eq_true _
  have t6 : (x.toList == x.toList) = true := beq_self_eq_true _
  have t7 : (p.toList == p.toList) = true := beq_self_eq_true _
  have cA := Load.awake_k
  clear hT
  go_enter Tryd.func8, Tryd.ntmps8
  go_wp2_with fail
  refine (c1.calls0 HT.out) ?_
  intro w1 h1
  replace HT := Lib.hid (HT.out.since (by first | exact h1 | exact (Since.alloc (Since.refl _) _).step h1 | exact (Since.alloc (Since.alloc (Since.refl _) _) _).step h1 | exact (Since.drew (Since.refl _)).step h1 | exact (Since.alloc (Since.alloc (Since.alloc (Since.refl _) _) _) _).step h1))
  replace HS := Lib.hid (HS.out.step (by first | exact h1 | exact (Since.alloc (Since.refl _) _).step h1 | exact (Since.alloc (Since.alloc (Since.refl _) _) _).step h1 | exact (Since.drew (Since.refl _)).step h1 | exact (Since.alloc (Since.alloc (Since.alloc (Since.refl _) _) _) _).step h1))
  clear h1
  go_wp2_with fail
  refine (c2.calls0) ?_
  intro w2 h2
  replace HT := Lib.hid (HT.out.since (by first | exact h2 | exact (Since.alloc (Since.refl _) _).step h2 | exact (Since.alloc (Since.alloc (Since.refl _) _) _).step h2 | exact (Since.drew (Since.refl _)).step h2 | exact (Since.alloc (Since.alloc (Since.alloc (Since.refl _) _) _) _).step h2))
  replace HS := Lib.hid (HS.out.step (by first | exact h2 | exact (Since.alloc (Since.refl _) _).step h2 | exact (Since.alloc (Since.alloc (Since.refl _) _) _).step h2 | exact (Since.drew (Since.refl _)).step h2 | exact (Since.alloc (Since.alloc (Since.alloc (Since.refl _) _) _) _).step h2))
  clear h2
  go_wp2_with fail
  refine (c3.calls0 HT.out) ?_
  intro w3 h3
  replace HT := Lib.hid (HT.out.since (by first | exact h3 | exact (Since.alloc (Since.refl _) _).step h3 | exact (Since.alloc (Since.alloc (Since.refl _) _) _).step h3 | exact (Since.drew (Since.refl _)).step h3 | exact (Since.alloc (Since.alloc (Since.alloc (Since.refl _) _) _) _).step h3))
  replace HS := Lib.hid (HS.out.step (by first | exact h3 | exact (Since.alloc (Since.refl _) _).step h3 | exact (Since.alloc (Since.alloc (Since.refl _) _) _).step h3 | exact (Since.drew (Since.refl _)).step h3 | exact (Since.alloc (Since.alloc (Since.alloc (Since.refl _) _) _) _).step h3))
  clear h3
  go_wp2_with fail
  refine (c4.calls0) ?_
  intro w4 h4
  replace HT := Lib.hid (HT.out.since (by first | exact h4 | exact (Since.alloc (Since.refl _) _).step h4 | exact (Since.alloc (Since.alloc (Since.refl _) _) _).step h4 | exact (Since.drew (Since.refl _)).step h4 | exact (Since.alloc (Since.alloc (Since.alloc (Since.refl _) _) _) _).step h4))
  replace HS := Lib.hid (HS.out.step (by first | exact h4 | exact (Since.alloc (Since.refl _) _).step h4 | exact (Since.alloc (Since.alloc (Since.refl _) _) _).step h4 | exact (Since.drew (Since.refl _)).step h4 | exact (Since.alloc (Since.alloc (Since.alloc (Since.refl _) _) _) _).step h4))
  clear h4
  go_wp2_with fail
  refine (c5.calls0 HT.out) ?_
  intro w5 h5
  replace HT := Lib.hid (HT.out.since (by first | exact h5 | exact (Since.alloc (Since.refl _) _).step h5 | exact (Since.alloc (Since.alloc (Since.refl _) _) _).step h5 | exact (Since.drew (Since.refl _)).step h5 | exact (Since.alloc (Since.alloc (Since.alloc (Since.refl _) _) _) _).step h5))
  replace HS := Lib.hid (HS.out.step (by first | exact h5 | exact (Since.alloc (Since.refl _) _).step h5 | exact (Since.alloc (Since.alloc (Since.refl _) _) _).step h5 | exact (Since.drew (Since.refl _)).step h5 | exact (Since.alloc (Since.alloc (Since.alloc (Since.refl _) _) _) _).step h5))
  clear h5
  go_wp2_with fail
  refine (c6.calls) ?_
  go_wp2_with fail
  refine (c7.calls0 HT.out) ?_
  intro w7 h7
  replace HT := Lib.hid (HT.out.since (by first | exact h7 | exact (Since.alloc (Since.refl _) _).step h7 | exact (Since.alloc (Since.alloc (Since.refl _) _) _).step h7 | exact (Since.drew (Since.refl _)).step h7 | exact (Since.alloc (Since.alloc (Since.alloc (Since.refl _) _) _) _).step h7))
  replace HS := Lib.hid (HS.out.step (by first | exact h7 | exact (Since.alloc (Since.refl _) _).step h7 | exact (Since.alloc (Since.alloc (Since.refl _) _) _).step h7 | exact (Since.drew (Since.refl _)).step h7 | exact (Since.alloc (Since.alloc (Since.alloc (Since.refl _) _) _) _).step h7))
  clear h7
  go_wp2_with fail
  refine (c8.calls) ?_
  go_wp2_with fail
  refine (cA.calls0 HT.out) ?_
  intro w9 h9
  replace HS := Lib.hid (HS.out.step (by first | exact h9 | exact (Since.alloc (Since.refl _) _).step h9 | exact (Since.alloc (Since.alloc (Since.refl _) _) _).step h9 | exact (Since.drew (Since.refl _)).step h9 | exact (Since.alloc (Since.alloc (Since.alloc (Since.refl _) _) _) _).step h9))
  clear h9
  go_wp2_with fail
  go_ret
  exact ⟨rfl, HS.out⟩
set_option maxRecDepth 100000 in
set_option maxHeartbeats 4000000 in
theorem core_big (w : World) (hT : Tab2 w) (no : Int) (key pads l s : ByteArray) (hb : 200 < key.size ∨ 200 < pads.size ∨ 20 < l.size ∨ 200 < s.size) :
    Calls Tryd.prog 8 #[.int .i64 no, .string key, .string pads, .string l, .string s] w fun x w' => x = .returned (.bool true) ∧ Since w w' := by
  have HS := Lib.hid (Since.refl w)
  have HT := Lib.hid hT
  have cA := Load.awake_k
  clear hT
  have hcase : ∃ q1 q2 q3 q4 : Bool, decide ((200 : Int) < (key.size : Int)) = q1 ∧ decide ((200 : Int) < (pads.size : Int)) = q2 ∧ decide ((20 : Int) < (l.size : Int)) = q3 ∧ decide ((200 : Int) < (s.size : Int)) = q4 ∧ (q1 || q2 || q3 || q4) = true := by
    refine ⟨_, _, _, _, rfl, rfl, rfl, rfl, ?_⟩
    simp only [Bool.or_eq_true, decide_eq_true_eq]
    omega
  obtain ⟨q1, q2, q3, q4, t1, t2, t3, t4, hq⟩ := hcase
  clear hb
  cases q1
  · cases q2
    · cases q3
      · cases q4
        · cases hq
        · clear hq
          go_enter Tryd.func8, Tryd.ntmps8
          go_wp2_with fail
          refine (cA.calls0 HT.out) ?_
          intro w18 h18
          replace HS := Lib.hid (HS.out.step (by first | exact h18 | exact (Since.alloc (Since.refl _) _).step h18 | exact (Since.alloc (Since.alloc (Since.refl _) _) _).step h18 | exact (Since.drew (Since.refl _)).step h18 | exact (Since.alloc (Since.alloc (Since.alloc (Since.refl _) _) _) _).step h18))
          clear h18
          go_wp2_with fail
          go_ret
          exact ⟨rfl, HS.out⟩
      · clear hq t4
        go_enter Tryd.func8, Tryd.ntmps8
        go_wp2_with fail
        refine (cA.calls0 HT.out) ?_
        intro w18 h18
        replace HS := Lib.hid (HS.out.step (by first | exact h18 | exact (Since.alloc (Since.refl _) _).step h18 | exact (Since.alloc (Since.alloc (Since.refl _) _) _).step h18 | exact (Since.drew (Since.refl _)).step h18 | exact (Since.alloc (Since.alloc (Since.alloc (Since.refl _) _) _) _).step h18))
        clear h18
        go_wp2_with fail
        go_ret
        exact ⟨rfl, HS.out⟩
    · clear hq t3 t4
      go_enter Tryd.func8, Tryd.ntmps8
      go_wp2_with fail
      refine (cA.calls0 HT.out) ?_
      intro w18 h18
      replace HS := Lib.hid (HS.out.step (by first | exact h18 | exact (Since.alloc (Since.refl _) _).step h18 | exact (Since.alloc (Since.alloc (Since.refl _) _) _).step h18 | exact (Since.drew (Since.refl _)).step h18 | exact (Since.alloc (Since.alloc (Since.alloc (Since.refl _) _) _) _).step h18))
      clear h18
      go_wp2_with fail
      go_ret
      exact ⟨rfl, HS.out⟩
  · clear hq t2 t3 t4
    go_enter Tryd.func8, Tryd.ntmps8
    go_wp2_with fail
    refine (cA.calls0 HT.out) ?_
    intro w18 h18
    replace HS := Lib.hid (HS.out.step (by first | exact h18 | exact (Since.alloc (Since.refl _) _).step h18 | exact (Since.alloc (Since.alloc (Since.refl _) _) _).step h18 | exact (Since.drew (Since.refl _)).step h18 | exact (Since.alloc (Since.alloc (Since.alloc (Since.refl _) _) _) _).step h18))
    clear h18
    go_wp2_with fail
    go_ret
    exact ⟨rfl, HS.out⟩
set_option maxRecDepth 100000 in
theorem walk (no : Int) (key pads l s : ByteArray) (_w0 : (Lit.int .i64 no).wf = true) (_w1 : key.size ≤ maxLen) (_w2 : pads.size ≤ maxLen) (_w3 : l.size ≤ maxLen) (_w4 : s.size ≤ maxLen) (w : World) (hT : Tab2 w) :
    Calls Tryd.prog 8 #[.int .i64 no, .string key, .string pads, .string l, .string s] w fun e w' => e = .returned (.bool true) ∧ Below w.heap.size w w' := by
  by_cases hb : 200 < key.size ∨ 200 < pads.size ∨ 20 < l.size ∨ 200 < s.size
  · exact core_big w hT no key pads l s hb
  · obtain ⟨X, E, c1, c2, _⟩ := make_both no key pads (by omega) (by omega)
    obtain ⟨k, x, p, F, c3, c4, _⟩ := take_both l s (by omega)
    exact core w hT no key pads l s (by omega) (by omega) (by omega) (by omega) X x p E F k _ _ c1 c2 c3 c4 (total_k l _ rfl) (rtotal_ret l _ rfl) (pads_k no _ rfl) (rpads_ret no _ rfl)

set_option maxRecDepth 100000 in
theorem own : ownKnob Tryd.prog.godebug = none := by kernel_rfl

def laidL : List (String × DataW Unit) := [("unicode/utf8.acceptRanges", Rows.laid_unicode_utf8_acceptRanges), ("claviger/curve.lines", Rows.laid_claviger_curve_lines), ("claviger/kind.lines", Rows.laid_claviger_kind_lines), ("unicode/utf8.first", Rows.laid_unicode_utf8_first)]
set_option maxRecDepth 100000 in
theorem lifted (os : Os) (started : os.Started) (H : Type) (enc : TypeId × Value → H) :
    ReturnsInHanded {} Tryd.checked os 8 .any (fun w args => (Rows.loadTellsSpec.pre enc Tryd.prog Tryd.f8 [] false w args ∧ laidMetH Tryd.prog laidL w) ∧ sizedMet enc Tryd.prog Tryd.f8 (OpenSpec.ofChange Rows.loadTellsSpec) false w args)
      (Rows.loadTellsSpec.post enc Tryd.prog Tryd.f8 false true false false) := by
  refine returnsInHanded_of_change_and (C := Tryd.checked) (X := fun w _ => laidMetH Tryd.prog laidL w) (fun _ _ _ hh h => h.of_heap hh) own started (by kernel_rfl) Tryd.func8
    (ChangeSpec.witness_shaped (enc := enc) (C := Tryd.checked) (os := os) (X := fun w _ => laidMetH Tryd.prog laidL w) false (World.laidAll Tryd.prog os laidL) #[.int .i64 0, .string ⟨#[]⟩, .string ⟨#[]⟩, .string ⟨#[]⟩, .string ⟨#[]⟩] 8 (World.laidAll_os _ _ _) (World.shaped_of_ZipB (by kernel_rfl) (by kernel_rfl)) (by kernel_rfl) (by kernel_rfl) (by kernel_rfl) (by rw [MakeChecks.laidMetH_plain _ _ _ (by kernel_rfl)]; exact laidMet_laidAll _ (by kernel_rfl) (by kernel_rfl))) ?_
  intro W base args ds gs before hval0 hW _ _ hL _
  have hval : ∀ (j : Nat) t v, Tryd.f8.params[j]? = some t → args[j]? = some v → Value.okWide Tryd.prog W .any base t v := hval0
  have hW' := hW
  obtain ⟨p, q, hA0, hV, rfl, hfz, hnd⟩ := hW
  have hA : DataW.TrodAll enc Tryd.prog W 0 (fun _ => true) true Tryd.f8.params.toList args.toList ds p := hA0
  rw [Tryd.params8] at hA hval
  obtain ⟨v0, vs0, d0, ds0, p0, q0, hargs, rfl, rfl, h0, r0⟩ := trodAll_cons hA
  obtain ⟨v1, vs1, d1, ds1, p1, q1, rfl, rfl, rfl, h1, r1⟩ := trodAll_cons r0
  obtain ⟨v2, vs2, d2, ds2, p2, q2, rfl, rfl, rfl, h2, r2⟩ := trodAll_cons r1
  obtain ⟨v3, vs3, d3, ds3, p3, q3, rfl, rfl, rfl, h3, r3⟩ := trodAll_cons r2
  obtain ⟨v4, vs4, d4, ds4, p4, q4, rfl, rfl, rfl, h4, r4⟩ := trodAll_cons r3
  obtain ⟨rfl, rfl, rfl⟩ := trodAll_nil r4
  obtain rfl : args = #[v0, v1, v2, v3, v4] := by cases args; simp_all
  obtain ⟨rfl, rfl⟩ := trodVars_none hV
  obtain ⟨a0, rfl, rfl, rfl, w0⟩ := open_int Tryd.underlying3 (hval 0 3 v0 rfl rfl) h0
  obtain ⟨a1, rfl, rfl, rfl, w1⟩ := Go.ChangeMaps.open_string Tryd.underlying9 (hval 1 9 v1 rfl rfl) h1
  obtain ⟨a2, rfl, rfl, rfl, w2⟩ := Go.ChangeMaps.open_string Tryd.underlying9 (hval 2 9 v2 rfl rfl) h2
  obtain ⟨a3, rfl, rfl, rfl, w3⟩ := Go.ChangeMaps.open_string Tryd.underlying9 (hval 3 9 v3 rfl rfl) h3
  obtain ⟨a4, rfl, rfl, rfl, w4⟩ := Go.ChangeMaps.open_string Tryd.underlying9 (hval 4 9 v4 rfl rfl) h4
  clear hA0 hval0
  simp only [List.append_nil] at hW'
  refine (walk a0 a1 a2 a3 a4 w0 w1 w2 w3 w4 W (Kind.tabs4_of hL)).mono fun e W' ⟨he, hg⟩ => ?_
  subst he
  exact ⟨_, rfl, _, _, _, _, _, [], hW', (trodAll_cons_mk (shut_bool Tryd.underlying4 _) trodAll_mk0), (trodAll_cons_mk (shut_int Tryd.underlying3 w0) (trodAll_cons_mk (Go.ChangeMaps.shut_string Tryd.underlying9 w1) (trodAll_cons_mk (Go.ChangeMaps.shut_string Tryd.underlying9 w2) (trodAll_cons_mk (Go.ChangeMaps.shut_string Tryd.underlying9 w3) (trodAll_cons_mk (Go.ChangeMaps.shut_string Tryd.underlying9 w4) trodAll_mk0))))), rfl, hg.frame _, fun h => by cases h⟩

set_option maxRecDepth 100000 in
theorem over : Rows.loadTellsRow.holds Tryd.pinned (OpenSpec.ofChange Rows.loadTellsSpec) :=
  OpenClaim.holds_of_wide 8 Tryd.f8 rfl rfl rfl rfl rfl rfl rfl ⟨rfl, rfl, rfl, rfl, rfl⟩ rfl rfl rfl rfl rfl (by kernel_rfl) Tryd.func8 (by kernel_rfl)
    (of_decide_eq_true (by kernel_rfl)) (by unfold Func.isWrapper; first | (rw [if_pos (by decide +kernel)]; kernel_rfl) | (rw [if_neg (by decide +kernel)]; exact ⟨rfl, rfl⟩))
    (fun os started H enc _ => lifted os started H enc)

set_option maxRecDepth 100000 in
theorem proved : Rows.LoadTellsCardSaid :=
  Claim7.holds_tied_plain_at .later [] [.data, .data, .data, .pinned] true Rows.loadTellsCard.stood.harness false
    over (fun _ h => by cases h) (by kernel_rfl) (fun _ h => by cases h) loadTells_row_tie rfl ⟨rfl, rfl⟩ (by kernel_rfl) rfl
    (fun f fn hf hfn => by
      obtain rfl : f = 8 := Option.some.inj ((show Tryd.prog.funcNamed "claviger/clavigerlaw36.LoadTells" = some 8 by kernel_rfl).symm.trans hf) |>.symm
      obtain rfl : fn = Tryd.f8 := (Option.some.inj (Tryd.func8.symm.trans hfn)).symm
      exact ⟨by kernel_rfl, fun j t ht => by
        rw [Tryd.params8] at ht
        have hm : t ∈ [3, 9, 9, 9, 9] := by simpa using Array.mem_of_getElem? ht
        have hall : ([3, 9, 9, 9, 9].all fun u => !Tryd.prog.wantsStandIn u) = true := by kernel_rfl
        exact (show Tryd.prog.wantsStandIn t = false by simpa using List.all_eq_true.1 hall t hm)⟩)
    (by kernel_rfl)

end Go.Proofs.YtpakifiphdlkoaaDoor.loadTells
