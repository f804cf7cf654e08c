/- The law FaultFound: an error is found by its name; it goes with something that was got, or with nothing, never with both. The two tables of package fault hold what the program's text says. -/
import Derived.Test.YtcdjpdncgaeinaaDoorRows
import Derived.Test.YtcdjpdncgaeinaaDoorCards
import Derived.Test.YtcdjpdncgaeinaaDoorTie
import Derived.Test.YtcdjpdncgaeinaaDoorFault5
import Derived.WalkKit
import Derived.ProofKit
import Derived.OpenShut
import Derived.LaidMore
import Derived.SevenTiedAt
import Derived.Stop.Joined
import Derived.Lib.Hide
namespace Go.Proofs.YtcdjpdncgaeinaaDoor.faultFound
open Go.ChangeShapes Go.WideShapes Go.ChangeAt Go.WideMaps Go.WideElems Go.RowKit
open Fault (Tabs KMak MakI)

set_option maxHeartbeats 4000000 in
theorem core_out (e : Int) (he : ¬ (0 ≤ e ∧ e < 18)) (w : World) (hT : Tabs w) : Calls Tryd.prog 5 #[.int .i64 e] w fun x w' => x = .returned (.bool true) ∧ Since w w' := by
  have H0 := Lib.hid (Since.refl w)
  have HT := Lib.hid hT
  clear hT
  have c1 := Fault.name_out e he
  have c2 := Fault.class_out e he
  have c3 := Fault.told_ret e true false (by rw [decide_eq_false he]; rfl)
  have c4 := Fault.told_ret e false false (by rw [decide_eq_false he]; rfl)
  clear he
  go_enter Tryd.func5, Tryd.ntmps5
  go_wp2_with fail
  refine c1.calls HT.out H0.out ?_
  intro w1 h1
  have H1 := Lib.hid h1
  clear h1
  go_wp2_with fail
  refine c2.calls HT.out H1.out ?_
  intro w2 h2
  have H2 := Lib.hid h2
  clear h2
  go_wp2_with fail
  refine (c3).calls ?_
  go_wp2_with fail
  refine (c4).calls ?_
  go_wp2_with fail
  refine Fault.awake_k.calls HT.out H2.out ?_
  intro w3 h3
  have H3 := Lib.hid h3
  clear h3
  go_wp2_with fail
  go_ret
  exact ⟨rfl, H3.out⟩

set_option maxHeartbeats 4000000 in
theorem core_in (e : Nat) (he : e < 18) (N : ByteArray) (hN : 0 < N.size) (c : Int) (hc0 : 0 ≤ c) (hc4 : c ≤ 4) (hce : (c == 0) = ((e : Int) == 0)) (c1 : KMak 9 #[.int .i64 (e : Int)] (.string N)) (c2 : KMak 7 #[.string N] (.tuple #[.int .i64 (e : Int), .bool true]))
    (c3 : KMak 11 #[.int .i64 (e : Int)] (.int .i64 c)) (b : Bool) (c4 : Ret 21 #[.int .i64 (e : Int), .bool true] (.bool b)) (c5 : Ret 21 #[.int .i64 (e : Int), .bool false] (.bool (!b)))
    (w : World) (hT : Tabs w) : Calls Tryd.prog 5 #[.int .i64 (e : Int)] w fun x w' => x = .returned (.bool true) ∧ Since w w' := by
  have H0 := Lib.hid (Since.refl w)
  have HT := Lib.hid hT
  have hne := some_bytes_f N hN
  clear hT hN
  have hcont : ∀ (W : World) (v : Value), IntsR W v Fault.all18 → Calls Tryd.prog 23 #[v, .int .i64 (e : Int)] W fun x w' => x = .returned (.bool true) ∧ W = w' := fun W v hv =>
    Fault.contains_at W v Fault.all18 hv (by decide) e he (e : Int) (by simp [Fault.all18, List.getD, he]) (fun i hi => by simp [Fault.all18, List.getD, show i < 18 from by omega]; omega)
  have HC := Lib.hid hcont
  clear hcont
  have hbb : (b != !b) = true := by cases b <;> rfl
  go_enter Tryd.func5, Tryd.ntmps5
  go_wp2_with fail
  refine c1.calls HT.out H0.out ?_
  intro w1 h1
  have H1 := Lib.hid h1
  clear h1
  go_wp2_with fail
  refine c2.calls HT.out H1.out ?_
  intro w2 h2
  have H2 := Lib.hid h2
  clear h2
  go_wp2_with fail
  refine c3.calls HT.out H2.out ?_
  intro w3 h3
  have H3 := Lib.hid h3
  clear h3
  go_wp2_with fail
  refine (c4).calls ?_
  go_wp2_with fail
  refine (c5).calls ?_
  go_wp2_with fail
  refine Fault.all_mak.calls H3.out ?_
  intro v w4 hv hb h4
  have Hb := Lib.hid hb
  clear hb
  have H4 := Lib.hid h4
  clear h4
  have Hv := Lib.hid hv
  clear hv
  go_wp2_with fail
  refine (HC.out w4 v Hv.out).mono ?_
  rintro x w5 ⟨rfl, rfl⟩
  go_wp2_with fail
  refine Fault.awake_k.calls HT.out H4.out ?_
  intro w6 h6
  have H6 := Lib.hid h6
  clear h6
  go_wp2_with fail
  go_ret
  exact ⟨rfl, H6.out⟩

theorem walk (a0 : Int) (w0 : (Lit.int .i64 a0).wf = true) (w : World) (hT : Tabs w) : Calls Tryd.prog 5 #[.int .i64 a0] w fun e w' => e = .returned (.bool true) ∧ Below w.heap.size w w' := by
  by_cases h : 0 ≤ a0 ∧ a0 < 18
  · obtain ⟨h1, h2⟩ := h
    obtain ⟨e, rfl⟩ := Int.eq_ofNat_of_zero_le h1
    have he : e < 18 := by omega
    have c2 := Fault.by_any (bs (Fault.tabN.getD e [])) (by
      have hall : ∀ i, i < 18 → (bs (Fault.tabN.getD i [])).size ≤ 1000000 := by decide
      exact hall e he)
    rw [list_bs, Fault.placeN_at _ e he rfl] at c2
    have c4 := Fault.told_ret (e : Int) true _ rfl
    have c5 := Fault.told_ret (e : Int) false _ rfl
    rw [decide_eq_true (show 0 ≤ (e : Int) ∧ (e : Int) < 18 from ⟨by omega, by omega⟩)] at c4 c5
    refine core_in e he _ ?_ (Fault.tabC.getD e 0) ?_ ?_ ?_ (Fault.name_in e he _ rfl) c2 (Fault.class_in e he _ rfl) ((e : Int) == 0) ?_ ?_ w hT
    · have hall : ∀ i, i < 18 → 0 < (bs (Fault.tabN.getD i [])).size := by decide
      exact hall e he
    · have hall : ∀ i, i < 18 → 0 ≤ Fault.tabC.getD i 0 := by decide
      exact hall e he
    · have hall : ∀ i, i < 18 → Fault.tabC.getD i 0 ≤ 4 := by decide
      exact hall e he
    · have hall : ∀ i : Nat, i < 18 → (Fault.tabC.getD i 0 == 0) = ((i : Int) == 0) := by decide
      exact hall e he
    · simpa using c4
    · simpa using c5
  · exact core_out a0 h w hT

theorem own : ownKnob Tryd.prog.godebug = none := by kernel_rfl

def laidL {H : Type} : List (String × DataW H) := [("claviger/fault.names", Rows.laid_claviger_fault_names), ("claviger/fault.classes", Rows.laid_claviger_fault_classes)]
theorem door_met (os : Os) (args : Array Value) : laidMetH Tryd.prog laidL ((World.doorLaid Tryd.prog 400 os).forCall (fun _ _ => 0) ⟨#[], args, []⟩).memory :=
  laidMetH_of_parts3 (fuel := 8) (laidMet_of_run' 8 (by kernel_rfl) (by kernel_rfl)) (by kernel_rfl) (by kernel_rfl)
set_option maxRecDepth 100000 in
theorem lifted (os : Os) (started : os.Started) (H : Type) (enc : TypeId × Value → H) :
    ReturnsInHanded {} Tryd.checked os 5 .any (fun w args => (Rows.faultFoundSpec.pre enc Tryd.prog Tryd.f5 [] false w args ∧ laidMetH Tryd.prog laidL w) ∧ sizedMet enc Tryd.prog Tryd.f5 (OpenSpec.ofChange Rows.faultFoundSpec) false w args)
      (Rows.faultFoundSpec.post enc Tryd.prog Tryd.f5 false true false false) := by
  refine returnsInHanded_of_change_and (C := Tryd.checked) (X := fun w _ => laidMetH Tryd.prog laidL w) (fun _ _ _ hh h => h.of_heap hh) own started (by kernel_rfl) Tryd.func5
    (ChangeSpec.witness_shaped (enc := enc) (C := Tryd.checked) (os := os) (X := fun w _ => laidMetH Tryd.prog laidL w) false (World.doorLaid Tryd.prog 400 os) #[.int .i64 0] 8 rfl (World.shaped_of_RefB (by kernel_rfl) (by kernel_rfl)) (by kernel_rfl) (by kernel_rfl) (by kernel_rfl) (door_met os _)) ?_
  intro W base args ds gs before hval0 hW _ _ hL _
  have hval : ∀ (j : Nat) t v, Tryd.f5.params[j]? = some t → args[j]? = some v → Value.okWide Tryd.prog W .any base t v := hval0
  have hW' := hW
  obtain ⟨p, q, hA0, hV, rfl, hfz, hnd⟩ := hW
  have hA : DataW.TrodAll enc Tryd.prog W 0 (fun _ => true) true Tryd.f5.params.toList args.toList ds p := hA0
  rw [Tryd.params5] at hA hval
  obtain ⟨v0, vs0, d0, ds0, p0, q0, hargs, rfl, rfl, h0, r0⟩ := trodAll_cons hA
  obtain ⟨rfl, rfl, rfl⟩ := trodAll_nil r0
  obtain rfl : args = #[v0] := by cases args; simp_all
  obtain ⟨rfl, rfl⟩ := trodVars_none hV
  obtain ⟨a0, rfl, rfl, rfl, w0⟩ := open_int Tryd.underlying22 (hval 0 22 v0 rfl rfl) h0
  clear hA0 hval0
  simp only [List.append_nil] at hW'
  refine (walk a0 w0 W (Fault.tabs_of hL)).mono fun e W' ⟨he, hg⟩ => ?_
  subst he
  exact ⟨_, rfl, _, _, _, _, _, [], hW', (trodAll_cons_mk (shut_bool Tryd.underlying4 _) trodAll_mk0), (trodAll_cons_mk (shut_int Tryd.underlying22 w0) trodAll_mk0), rfl, hg.frame _, fun h => by cases h⟩

theorem over : Rows.faultFoundRow.holds Tryd.pinned (OpenSpec.ofChange Rows.faultFoundSpec) :=
  OpenClaim.holds_of_wide 5 Tryd.f5 rfl rfl rfl rfl rfl rfl rfl ⟨rfl, rfl, rfl, rfl, rfl⟩ rfl rfl rfl rfl rfl (by kernel_rfl) Tryd.func5 (by kernel_rfl)
    (of_decide_eq_true (by kernel_rfl)) (by unfold Func.isWrapper; first | (rw [if_pos (by decide +kernel)]; kernel_rfl) | (rw [if_neg (by decide +kernel)]; exact ⟨rfl, rfl⟩))
    (fun os started H enc _ => lifted os started H enc)

theorem proved : Rows.FaultFoundCardSaid :=
  Claim7.holds_tied_plain_at .later [] [.data, .data] true Rows.faultFoundCard.stood.harness false
    over (fun _ h => by cases h) (by kernel_rfl) (fun _ h => by cases h) faultFound_row_tie rfl ⟨rfl, rfl⟩ (by kernel_rfl) rfl
    (fun f fn hf hfn => by
      obtain rfl : f = 5 := Option.some.inj ((show Tryd.prog.funcNamed "claviger/clavigerlaw40.FaultFound" = some 5 by kernel_rfl).symm.trans hf) |>.symm
      obtain rfl : fn = Tryd.f5 := (Option.some.inj (Tryd.func5.symm.trans hfn)).symm
      exact ⟨by kernel_rfl, fun j t ht => by
        rw [Tryd.params5] at ht
        have hm : t ∈ [22] := by simpa using Array.mem_of_getElem? ht
        have hall : ([22].all fun u => !Tryd.prog.wantsStandIn u) = true := by kernel_rfl
        exact (show Tryd.prog.wantsStandIn t = false by simpa using List.all_eq_true.1 hall t hm)⟩)
    (by kernel_rfl)

end Go.Proofs.YtcdjpdncgaeinaaDoor.faultFound
