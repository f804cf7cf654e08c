/- The law FaultTells: what any error is called, and of what it is, is as the document says. The two tables of package fault hold what the program's text says. -/
import Derived.Test.YtcdjpdncgaeinaaDoorRows
import Derived.Test.YtcdjpdncgaeinaaDoorCards
import Derived.Test.YtcdjpdncgaeinaaDoorTie
import Derived.Test.YtcdjpdncgaeinaaDoorFault5
import Derived.Test.YtcdjpdncgaeinaaDoorSlEqI
import Derived.WalkKit
import Derived.ProofKit
import Derived.OpenShut
import Derived.LaidMore
import Derived.SevenTiedAt
import Derived.Stop.Joined
import Derived.Lib.Hide
namespace Go.Proofs.YtcdjpdncgaeinaaDoor.faultTells
open Go.ChangeShapes Go.WideShapes Go.ChangeAt Go.WideMaps Go.WideElems Go.RowKit
open Fault (Tabs KMak MakI)

set_option maxHeartbeats 4000000 in
theorem core (e : Int) (n : ByteArray) (hn : n.size ≤ 100) (x : Int) (b : Bool) (N : ByteArray) (c : Int) (c1 : KMak 7 #[.string n] (.tuple #[.int .i64 x, .bool b])) (c2 : Mak 8 #[.string n] (.tuple #[.int .i64 x, .bool b]))
    (c3 : KMak 9 #[.int .i64 e] (.string N)) (c4 : Mak 10 #[.int .i64 e] (.string N)) (c5 : KMak 11 #[.int .i64 e] (.int .i64 c)) (c6 : Ret 12 #[.int .i64 e] (.int .i64 c)) (w : World) (hT : Tabs w) :
    Calls Tryd.prog 3 #[.int .i64 e, .string n] w fun x w' => x = .returned (.bool true) ∧ Since w w' := by
  have H0 := Lib.hid (Since.refl w)
  have HT := Lib.hid hT
  have hq := str_eq_t (rfl : N = N)
  clear hT
  go_enter Tryd.func3, Tryd.ntmps3
  go_wp2_with fail
  refine c1.calls HT.out H0.out ?_
  intro w1 h1
  have H1 := Lib.hid h1
  clear h1
  go_wp2_with fail
  refine (c2).calls H1.out ?_
  intro w2 h2
  have H2 := Lib.hid h2
  clear h2
  go_wp2_with fail
  refine c3.calls HT.out H2.out ?_
  intro w3 h3
  have H3 := Lib.hid h3
  clear h3
  go_wp2_with fail
  refine (c4).calls H3.out ?_
  intro w4 h4
  have H4 := Lib.hid h4
  clear h4
  go_wp2_with fail
  refine c5.calls HT.out H4.out ?_
  intro w5 h5
  have H5 := Lib.hid h5
  clear h5
  go_wp2_with fail
  refine (c6).calls ?_
  go_wp2_with fail
  refine Fault.all_mak.calls H5.out ?_
  intro v w6 hv hb h6
  have Hb := Lib.hid hb
  clear hb
  have H6 := Lib.hid h6
  clear h6
  have Hv := Lib.hid hv
  clear hv
  go_wp2_with fail
  refine Fault.rall_mak.calls H6.out ?_
  intro v2 w7 hv2 hb2 h7
  have hv7 := Hv.out.below hb2
  have Hb2 := Lib.hid hb2
  clear hb2
  have H7 := Lib.hid h7
  clear h7
  have Hv2 := Lib.hid hv2
  clear hv2
  have Hv7 := Lib.hid hv7
  clear hv7
  go_wp2_with fail
  refine (e_equal_ints w7 v v2 _ _ Hv7.out Hv2.out true (by decide)).mono ?_
  rintro x w8 ⟨rfl, hs8⟩
  have H8 := Lib.hid (Since.step H7.out hs8)
  clear hs8
  go_wp2_with fail
  refine Fault.awake_k.calls HT.out H8.out ?_
  intro w9 h9
  have H9 := Lib.hid h9
  clear h9
  go_wp2_with fail
  go_ret
  exact ⟨rfl, H9.out⟩

theorem walk (a0 : Int) (a1 : ByteArray) (w0 : (Lit.int .i64 a0).wf = true) (w1 : a1.size ≤ maxLen) (w : World) (hT : Tabs w) : Calls Tryd.prog 3 #[.int .i64 a0, .string a1] w fun e w' => e = .returned (.bool true) ∧ Below w.heap.size w w' := by
  unfold maxLen at w1
  by_cases hl : a1.size ≤ 100
  · have c1 := Fault.by_any a1 (by omega)
    have c2 := Fault.rby_mak a1 (by omega)
    by_cases h : 0 ≤ a0 ∧ a0 < 18
    · obtain ⟨h1, h2⟩ := h
      obtain ⟨e, rfl⟩ := Int.eq_ofNat_of_zero_le h1
      have he : e < 18 := by omega
      exact core _ a1 hl _ _ _ _ c1 c2 (Fault.name_in e he _ rfl) (Fault.rname_in e he _ rfl) (Fault.class_in e he _ rfl) (Fault.rclass_in e he _ rfl) w hT
    · exact core _ a1 hl _ _ _ _ c1 c2 (Fault.name_out a0 h) (Fault.rname_out a0 h) (Fault.class_out a0 h) (Fault.rclass_out a0 h) w hT
  · have H0 := Lib.hid (Since.refl w)
    have HT := Lib.hid hT
    clear hT
    go_enter Tryd.func3, Tryd.ntmps3
    go_wp2_with fail
    refine Fault.awake_k.calls HT.out H0.out ?_
    intro w9 h9
    have H9 := Lib.hid h9
    clear h9
    go_wp2_with fail
    go_ret
    exact ⟨rfl, H9.out⟩

theorem own : ownKnob Tryd.prog.godebug = none := by kernel_rfl

def laidL {H : Type} : List (String × DataW H) := [("claviger/fault.names", Rows.laid_claviger_fault_names), ("claviger/fault.classes", Rows.laid_claviger_fault_classes)]
theorem door_met (os : Os) (args : Array Value) : laidMetH Tryd.prog laidL ((World.doorLaid Tryd.prog 400 os).forCall (fun _ _ => 0) ⟨#[], args, []⟩).memory :=
  laidMetH_of_parts3 (fuel := 8) (laidMet_of_run' 8 (by kernel_rfl) (by kernel_rfl)) (by kernel_rfl) (by kernel_rfl)
set_option maxRecDepth 100000 in
theorem lifted (os : Os) (started : os.Started) (H : Type) (enc : TypeId × Value → H) :
    ReturnsInHanded {} Tryd.checked os 3 .any (fun w args => (Rows.faultTellsSpec.pre enc Tryd.prog Tryd.f3 [] false w args ∧ laidMetH Tryd.prog laidL w) ∧ sizedMet enc Tryd.prog Tryd.f3 (OpenSpec.ofChange Rows.faultTellsSpec) false w args)
      (Rows.faultTellsSpec.post enc Tryd.prog Tryd.f3 false true false false) := by
  refine returnsInHanded_of_change_and (C := Tryd.checked) (X := fun w _ => laidMetH Tryd.prog laidL w) (fun _ _ _ hh h => h.of_heap hh) own started (by kernel_rfl) Tryd.func3
    (ChangeSpec.witness_shaped (enc := enc) (C := Tryd.checked) (os := os) (X := fun w _ => laidMetH Tryd.prog laidL w) false (World.doorLaid Tryd.prog 400 os) #[.int .i64 0, .string ⟨#[]⟩] 8 rfl (World.shaped_of_RefB (by kernel_rfl) (by kernel_rfl)) (by kernel_rfl) (by kernel_rfl) (by kernel_rfl) (door_met os _)) ?_
  intro W base args ds gs before hval0 hW _ _ hL _
  have hval : ∀ (j : Nat) t v, Tryd.f3.params[j]? = some t → args[j]? = some v → Value.okWide Tryd.prog W .any base t v := hval0
  have hW' := hW
  obtain ⟨p, q, hA0, hV, rfl, hfz, hnd⟩ := hW
  have hA : DataW.TrodAll enc Tryd.prog W 0 (fun _ => true) true Tryd.f3.params.toList args.toList ds p := hA0
  rw [Tryd.params3] at hA hval
  obtain ⟨v0, vs0, d0, ds0, p0, q0, hargs, rfl, rfl, h0, r0⟩ := trodAll_cons hA
  obtain ⟨v1, vs1, d1, ds1, p1, q1, rfl, rfl, rfl, h1, r1⟩ := trodAll_cons r0
  obtain ⟨rfl, rfl, rfl⟩ := trodAll_nil r1
  obtain rfl : args = #[v0, v1] := by cases args; simp_all
  obtain ⟨rfl, rfl⟩ := trodVars_none hV
  obtain ⟨a0, rfl, rfl, rfl, w0⟩ := open_int Tryd.underlying22 (hval 0 22 v0 rfl rfl) h0
  obtain ⟨a1, rfl, rfl, rfl, w1⟩ := Go.ChangeMaps.open_string Tryd.underlying9 (hval 1 9 v1 rfl rfl) h1
  clear hA0 hval0
  simp only [List.append_nil] at hW'
  refine (walk a0 a1 w0 w1 W (Fault.tabs_of hL)).mono fun e W' ⟨he, hg⟩ => ?_
  subst he
  exact ⟨_, rfl, _, _, _, _, _, [], hW', (trodAll_cons_mk (shut_bool Tryd.underlying4 _) trodAll_mk0), (trodAll_cons_mk (shut_int Tryd.underlying22 w0) (trodAll_cons_mk (Go.ChangeMaps.shut_string Tryd.underlying9 w1) trodAll_mk0)), rfl, hg.frame _, fun h => by cases h⟩

theorem over : Rows.faultTellsRow.holds Tryd.pinned (OpenSpec.ofChange Rows.faultTellsSpec) :=
  OpenClaim.holds_of_wide 3 Tryd.f3 rfl rfl rfl rfl rfl rfl rfl ⟨rfl, rfl, rfl, rfl, rfl⟩ rfl rfl rfl rfl rfl (by kernel_rfl) Tryd.func3 (by kernel_rfl)
    (of_decide_eq_true (by kernel_rfl)) (by unfold Func.isWrapper; first | (rw [if_pos (by decide +kernel)]; kernel_rfl) | (rw [if_neg (by decide +kernel)]; exact ⟨rfl, rfl⟩))
    (fun os started H enc _ => lifted os started H enc)

theorem proved : Rows.FaultTellsCardSaid :=
  Claim7.holds_tied_plain_at .later [] [.data, .data] true Rows.faultTellsCard.stood.harness false
    over (fun _ h => by cases h) (by kernel_rfl) (fun _ h => by cases h) faultTells_row_tie rfl ⟨rfl, rfl⟩ (by kernel_rfl) rfl
    (fun f fn hf hfn => by
      obtain rfl : f = 3 := Option.some.inj ((show Tryd.prog.funcNamed "claviger/clavigerlaw40.FaultTells" = some 3 by kernel_rfl).symm.trans hf) |>.symm
      obtain rfl : fn = Tryd.f3 := (Option.some.inj (Tryd.func3.symm.trans hfn)).symm
      exact ⟨by kernel_rfl, fun j t ht => by
        rw [Tryd.params3] at ht
        have hm : t ∈ [22, 9] := by simpa using Array.mem_of_getElem? ht
        have hall : ([22, 9].all fun u => !Tryd.prog.wantsStandIn u) = true := by kernel_rfl
        exact (show Tryd.prog.wantsStandIn t = false by simpa using List.all_eq_true.1 hall t hm)⟩)
    (by kernel_rfl)

end Go.Proofs.YtcdjpdncgaeinaaDoor.faultTells
