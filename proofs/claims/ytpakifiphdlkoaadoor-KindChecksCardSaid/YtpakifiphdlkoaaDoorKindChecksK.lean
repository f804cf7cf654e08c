/- The law KindChecks: whether any bytes are a key of any kind is as the document says; no conditions. -/
import Derived.Test.YtpakifiphdlkoaaDoorRows
import Derived.WalkKit
import Derived.ProofKit
import Derived.OpenShut
import Derived.Lib.Hide
import Derived.Lay
import Derived.SevenTiedAt
import Derived.LaidOnce
import Derived.LaidMore
import Derived.Stop.Joined
import Derived.Test.YtpakifiphdlkoaaDoorTie
import Derived.Test.YtpakifiphdlkoaaDoorCards
import Derived.Test.YtpakifiphdlkoaaDoorKx2
namespace Go.Proofs.YtpakifiphdlkoaaDoor.kindChecks
open Go.ChangeShapes Go.WideShapes Go.ChangeAt Go.RowKit
open Kind


set_option maxRecDepth 100000 in
set_option maxHeartbeats 4000000 in
theorem core (w : World) (hT : Tab2 w) (n : Int) (s : ByteArray) (l1 : s.size ≤ 200) (E : Int) (c1 : KMk Tab2 43 #[.int .i64 n, .string s] (.int .i64 E)) (c2 : Mak 44 #[.int .i64 n, .string s] (.int .i64 E)) :
    Calls Tryd.prog 6 #[.int .i64 n, .string s] w fun x w' => x = .returned (.bool true) ∧ Since w w' := by
  have HS := Lib.hid (Since.refl w)
  have HT := Lib.hid hT
  have t2 : decide ((200 : Int) < (s.size : Int)) = false := decide_eq_false (by omega)
  have cA := awake_k
  clear hT
  go_enter Tryd.func6, Tryd.ntmps6
  go_wp2_with fail
  refine (c1.calls0 HT.out) ?_
  intro w1 h1
  replace HT := Lib.hid (HT.out.since (by first | exact h1 | exact (Since.alloc (Since.refl _) _).step h1 | exact (Since.alloc (Since.alloc (Since.refl _) _) _).step h1 | exact (Since.drew (Since.refl _)).step h1 | exact (Since.alloc (Since.alloc (Since.alloc (Since.refl _) _) _) _).step h1))
  replace HS := Lib.hid (HS.out.step (by first | exact h1 | exact (Since.alloc (Since.refl _) _).step h1 | exact (Since.alloc (Since.alloc (Since.refl _) _) _).step h1 | exact (Since.drew (Since.refl _)).step h1 | exact (Since.alloc (Since.alloc (Since.alloc (Since.refl _) _) _) _).step h1))
  clear h1
  go_wp2_with fail
  refine (c2.calls0) ?_
  intro w2 h2
  replace HT := Lib.hid (HT.out.since (by first | exact h2 | exact (Since.alloc (Since.refl _) _).step h2 | exact (Since.alloc (Since.alloc (Since.refl _) _) _).step h2 | exact (Since.drew (Since.refl _)).step h2 | exact (Since.alloc (Since.alloc (Since.alloc (Since.refl _) _) _) _).step h2))
  replace HS := Lib.hid (HS.out.step (by first | exact h2 | exact (Since.alloc (Since.refl _) _).step h2 | exact (Since.alloc (Since.alloc (Since.refl _) _) _).step h2 | exact (Since.drew (Since.refl _)).step h2 | exact (Since.alloc (Since.alloc (Since.alloc (Since.refl _) _) _) _).step h2))
  clear h2
  go_wp2_with fail
  refine (cA.calls0 HT.out) ?_
  intro w3 h3
  replace HS := Lib.hid (HS.out.step (by first | exact h3 | exact (Since.alloc (Since.refl _) _).step h3 | exact (Since.alloc (Since.alloc (Since.refl _) _) _).step h3 | exact (Since.drew (Since.refl _)).step h3 | exact (Since.alloc (Since.alloc (Since.alloc (Since.refl _) _) _) _).step h3))
  clear h3
  go_wp2_with fail
  go_ret
  exact ⟨rfl, HS.out⟩
set_option maxRecDepth 100000 in
theorem core_big (w : World) (hT : Tab2 w) (n : Int) (s : ByteArray) (l1 : 200 < s.size) : Calls Tryd.prog 6 #[.int .i64 n, .string s] w fun x w' => x = .returned (.bool true) ∧ Since w w' := by
  have HS := Lib.hid (Since.refl w)
  have HT := Lib.hid hT
  have t2 : decide ((200 : Int) < (s.size : Int)) = true := decide_eq_true (by omega)
  have cA := awake_k
  clear hT
  go_enter Tryd.func6, Tryd.ntmps6
  go_wp2_with fail
  refine (cA.calls0 HT.out) ?_
  intro w3 h3
  replace HS := Lib.hid (HS.out.step (by first | exact h3 | exact (Since.alloc (Since.refl _) _).step h3 | exact (Since.alloc (Since.alloc (Since.refl _) _) _).step h3 | exact (Since.drew (Since.refl _)).step h3 | exact (Since.alloc (Since.alloc (Since.alloc (Since.refl _) _) _) _).step h3))
  clear h3
  go_wp2_with fail
  go_ret
  exact ⟨rfl, HS.out⟩
set_option maxRecDepth 100000 in
theorem walk (n : Int) (s : ByteArray) (_w0 : (Lit.int .i64 n).wf = true) (_w1 : s.size ≤ maxLen) (w : World) (hT : Tab2 w) :
    Calls Tryd.prog 6 #[.int .i64 n, .string s] w fun e w' => e = .returned (.bool true) ∧ Below w.heap.size w w' := by
  by_cases hb : 200 < s.size
  · exact core_big w hT n s hb
  · exact core w hT n s (by omega) _ (check_k n s (by omega) _ rfl) (rcheck_mak n s (by omega) _ rfl)

set_option maxRecDepth 100000 in
theorem own : ownKnob Tryd.prog.godebug = none := by kernel_rfl

def laidL : List (String × DataW Unit) := [("unicode/utf8.acceptRanges", Rows.laid_unicode_utf8_acceptRanges), ("claviger/curve.lines", Rows.laid_claviger_curve_lines), ("claviger/kind.lines", Rows.laid_claviger_kind_lines), ("unicode/utf8.first", Rows.laid_unicode_utf8_first)]
set_option maxRecDepth 100000 in
theorem lifted (os : Os) (started : os.Started) (H : Type) (enc : TypeId × Value → H) :
    ReturnsInHanded {} Tryd.checked os 6 .any (fun w args => (Rows.kindChecksSpec.pre enc Tryd.prog Tryd.f6 [] false w args ∧ laidMetH Tryd.prog laidL w) ∧ sizedMet enc Tryd.prog Tryd.f6 (OpenSpec.ofChange Rows.kindChecksSpec) false w args)
      (Rows.kindChecksSpec.post enc Tryd.prog Tryd.f6 false true false false) := by
  refine returnsInHanded_of_change_and (C := Tryd.checked) (X := fun w _ => laidMetH Tryd.prog laidL w) (fun _ _ _ hh h => h.of_heap hh) own started (by kernel_rfl) Tryd.func6
    (ChangeSpec.witness_shaped (enc := enc) (C := Tryd.checked) (os := os) (X := fun w _ => laidMetH Tryd.prog laidL w) false (World.laidAll Tryd.prog os laidL) #[.int .i64 0, .string ⟨#[]⟩] 8 (World.laidAll_os _ _ _) (World.shaped_of_ZipB (by kernel_rfl) (by kernel_rfl)) (by kernel_rfl) (by kernel_rfl) (by kernel_rfl) (by rw [MakeChecks.laidMetH_plain _ _ _ (by kernel_rfl)]; exact laidMet_laidAll _ (by kernel_rfl) (by kernel_rfl))) ?_
  intro W base args ds gs before hval0 hW _ _ hL _
  have hval : ∀ (j : Nat) t v, Tryd.f6.params[j]? = some t → args[j]? = some v → Value.okWide Tryd.prog W .any base t v := hval0
  have hW' := hW
  obtain ⟨p, q, hA0, hV, rfl, hfz, hnd⟩ := hW
  have hA : DataW.TrodAll enc Tryd.prog W 0 (fun _ => true) true Tryd.f6.params.toList args.toList ds p := hA0
  rw [Tryd.params6] at hA hval
  obtain ⟨v0, vs0, d0, ds0, p0, q0, hargs, rfl, rfl, h0, r0⟩ := trodAll_cons hA
  obtain ⟨v1, vs1, d1, ds1, p1, q1, rfl, rfl, rfl, h1, r1⟩ := trodAll_cons r0
  obtain ⟨rfl, rfl, rfl⟩ := trodAll_nil r1
  obtain rfl : args = #[v0, v1] := by cases args; simp_all
  obtain ⟨rfl, rfl⟩ := trodVars_none hV
  obtain ⟨a0, rfl, rfl, rfl, w0⟩ := open_int Tryd.underlying3 (hval 0 3 v0 rfl rfl) h0
  obtain ⟨a1, rfl, rfl, rfl, w1⟩ := Go.ChangeMaps.open_string Tryd.underlying9 (hval 1 9 v1 rfl rfl) h1
  clear hA0 hval0
  simp only [List.append_nil] at hW'
  refine (walk a0 a1 w0 w1 W (Kind.tabs4_of hL)).mono fun e W' ⟨he, hg⟩ => ?_
  subst he
  exact ⟨_, rfl, _, _, _, _, _, [], hW', (trodAll_cons_mk (shut_bool Tryd.underlying4 _) trodAll_mk0), (trodAll_cons_mk (shut_int Tryd.underlying3 w0) (trodAll_cons_mk (Go.ChangeMaps.shut_string Tryd.underlying9 w1) trodAll_mk0)), rfl, hg.frame _, fun h => by cases h⟩

set_option maxRecDepth 100000 in
theorem over : Rows.kindChecksRow.holds Tryd.pinned (OpenSpec.ofChange Rows.kindChecksSpec) :=
  OpenClaim.holds_of_wide 6 Tryd.f6 rfl rfl rfl rfl rfl rfl rfl ⟨rfl, rfl, rfl, rfl, rfl⟩ rfl rfl rfl rfl rfl (by kernel_rfl) Tryd.func6 (by kernel_rfl)
    (of_decide_eq_true (by kernel_rfl)) (by unfold Func.isWrapper; first | (rw [if_pos (by decide +kernel)]; kernel_rfl) | (rw [if_neg (by decide +kernel)]; exact ⟨rfl, rfl⟩))
    (fun os started H enc _ => lifted os started H enc)

set_option maxRecDepth 100000 in
theorem proved : Rows.KindChecksCardSaid :=
  Claim7.holds_tied_plain_at .later [] [.data, .data, .data, .pinned] true Rows.kindChecksCard.stood.harness false
    over (fun _ h => by cases h) (by kernel_rfl) (fun _ h => by cases h) kindChecks_row_tie rfl ⟨rfl, rfl⟩ (by kernel_rfl) rfl
    (fun f fn hf hfn => by
      obtain rfl : f = 6 := Option.some.inj ((show Tryd.prog.funcNamed "claviger/clavigerlaw23.KindChecks" = some 6 by kernel_rfl).symm.trans hf) |>.symm
      obtain rfl : fn = Tryd.f6 := (Option.some.inj (Tryd.func6.symm.trans hfn)).symm
      exact ⟨by kernel_rfl, fun j t ht => by
        rw [Tryd.params6] at ht
        have hm : t ∈ [3, 9] := by simpa using Array.mem_of_getElem? ht
        have hall : ([3, 9].all fun u => !Tryd.prog.wantsStandIn u) = true := by kernel_rfl
        exact (show Tryd.prog.wantsStandIn t = false by simpa using List.all_eq_true.1 hall t hm)⟩)
    (by kernel_rfl)

end Go.Proofs.YtpakifiphdlkoaaDoor.kindChecks
