/- The law FaultCounts: of any errors the first, how many there are, and what goes with something that was got, is as the document says. The two tables of package fault hold what the program's text says. -/
import Derived.Test.YtcdjpdncgaeinaaDoorRows
import Derived.Test.YtcdjpdncgaeinaaDoorCards
import Derived.Test.YtcdjpdncgaeinaaDoorTie
import Derived.Test.YtcdjpdncgaeinaaDoorFault5
import Derived.WalkKit
import Derived.ProofKit
import Derived.OpenShut
import Derived.LaidMore
import Derived.SevenTiedAt
import Derived.Stop.Joined
import Derived.Lib.Hide
namespace Go.Proofs.YtcdjpdncgaeinaaDoor.faultCounts
open Go.ChangeShapes Go.WideShapes Go.ChangeAt Go.WideMaps Go.WideElems Go.RowKit
open Fault (Tabs KMak MakI fl)

theorem fl_conv (n : Nat) (w : World) : ∀ t1 t2, Tryd.prog.underlying t1 = some (.int .i64) → Tryd.prog.underlying t2 = some (.float .f64) → (convert t1 t2 (.int .i64 (n : Int))).run Tryd.prog w = .ok (.float .f64 (fl n)) w := by
  intro t1 t2 h1 h2
  simp [convert, run_underlying h1, run_underlying h2, Conv.intToFloat, fl]

set_option maxHeartbeats 4000000 in
theorem core (v : Value) (xs : List Int) (hm : xs.length ≤ 100) (e : Int) (g : Bool) (b : Bool) (X P Q : Nat) (Z : Int) (hZ : Z = Fault.firstN xs) (hP : P = Fault.fineN xs) (hQ : Q = Fault.otherN xs) (hX : X = xs.length) (A : Option Addr) (c : Nat) (hv0 : v = .slice A X c)
    (c1 : Ret 21 #[.int .i64 e, .bool g] (.bool b)) (c2 : Mak 22 #[.int .i64 e, .bool g] (.bool b)) (w : World) (hv : IntsR w v xs) (hT : Tabs w) :
    Calls Tryd.prog 4 #[v, .int .i64 e, .bool g] w fun x w' => x = .returned (.bool true) ∧ Since w w' := by
  have H0 := Lib.hid (Since.refl w)
  have HT := Lib.hid hT
  have g1 := Fault.first_any w v xs hv (by omega) Z hZ
  have g2 := Fault.rfirst_any w v xs hv (by omega) Z hZ
  have g3 := Fault.count_any w v xs hv hm P Q hP hQ
  have g4 := Fault.rfine_any w v xs hv (by omega) P hP
  have g5 := Fault.rothers_any w v xs hv (by omega) Q hQ
  have hp : P ≤ 100 := by rw [hP]; exact Nat.le_trans List.countP_le_length hm
  have hq : Q ≤ 100 := by rw [hQ]; exact Nat.le_trans List.countP_le_length hm
  have k1 := fun W => fl_conv P W 3 36 Tryd.underlying3 Tryd.underlying36
  have k2 := fun W => fl_conv Q W 3 36 Tryd.underlying3 Tryd.underlying36
  have o1 := (Fault.fl_at P hp).2.2
  have o2 := (Fault.fl_at Q hq).2.2
  have hmi : (X : Int) ≤ 100 := by omega
  obtain ⟨p, hpp⟩ : ∃ p, p = fl P := ⟨_, rfl⟩
  obtain ⟨q, hqq⟩ : ∃ q, q = fl Q := ⟨_, rfl⟩
  rw [← hpp] at g3 k1 o1
  rw [← hqq] at g3 k2 o2
  clear hT hv hZ hP hQ hp hq hpp hqq hX hm
  subst hv0
  have H_g1 := Lib.hid g1
  clear g1
  have H_g2 := Lib.hid g2
  clear g2
  have H_g3 := Lib.hid g3
  clear g3
  have H_g4 := Lib.hid g4
  clear g4
  have H_g5 := Lib.hid g5
  clear g5
  go_enter Tryd.func4, Tryd.ntmps4
  go_wp2_with fail
  refine H_g1.out.mono ?_
  rintro x w' ⟨rfl, rfl⟩
  go_wp2_with fail
  refine H_g2.out.mono ?_
  rintro x w' ⟨rfl, rfl⟩
  go_wp2_with fail
  refine H_g3.out.mono ?_
  rintro x w' ⟨rfl, rfl⟩
  go_wp2_with fail
  refine H_g4.out.mono ?_
  rintro x w' ⟨rfl, rfl⟩
  go_wp2_with fail
  refine H_g5.out.mono ?_
  rintro x w1 ⟨rfl, h1⟩
  have H1 := Lib.hid (Since.step H0.out h1)
  clear h1
  go_wp2_with fail
  refine (c1).calls ?_
  go_wp2_with fail
  refine (c2).calls H1.out ?_
  intro w2 h2
  have H2 := Lib.hid h2
  clear h2
  go_wp2_with fail
  refine Fault.awake_k.calls HT.out H2.out ?_
  intro w9 h9
  have H9 := Lib.hid h9
  clear h9
  go_wp2_with fail
  go_ret
  exact ⟨rfl, H9.out⟩

theorem walk (w : World) (a0 : Option Addr) (n0 c0 : Nat) (x0 : List Int) (a1 : Int) (a2 : Bool) (hA : IntsR w (.slice a0 n0 c0) x0) (hN : n0 = x0.length) (hX : ∀ x ∈ x0, (Lit.int .i64 x).wf = true) (w1 : (Lit.int .i64 a1).wf = true) (hT : Tabs w) :
    Calls Tryd.prog 4 #[.slice a0 n0 c0, .int .i64 a1, .bool a2] w fun e w' => e = .returned (.bool true) ∧ Below w.heap.size w w' := by
  by_cases hl : x0.length ≤ 100
  · by_cases h : 0 ≤ a1 ∧ a1 < 18
    · obtain ⟨h1, h2⟩ := h
      obtain ⟨e, rfl⟩ := Int.eq_ofNat_of_zero_le h1
      have he : e < 18 := by omega
      by_cases h0 : e = 0
      · subst h0
        exact core _ x0 hl _ a2 a2 n0 _ _ _ rfl rfl rfl hN a0 c0 rfl (Fault.told_ret 0 a2 a2 (by cases a2 <;> rfl)) (Fault.rtold_0 a2) w hA hT
      · have hpos : (bs (Fault.tabN.getD e [])).size ≠ 0 := by
          have hall : ∀ i, i < 18 → (bs (Fault.tabN.getD i [])).size ≠ 0 := by decide
          exact hall e he
        exact core _ x0 hl _ a2 (!a2) n0 _ _ _ rfl rfl rfl hN a0 c0 rfl (Fault.told_ret (e : Int) a2 (!a2) (by
          rw [decide_eq_true (show 0 ≤ (e : Int) ∧ (e : Int) < 18 from ⟨h1, h2⟩), show ((e : Int) == 0) = false from by rw [beq_eq_false_iff_ne]; omega]
          cases a2 <;> rfl)) (Fault.rtold_in e he (by omega) a2 _ hpos (Fault.rname_in e he _ rfl)) w hA hT
    · exact core _ x0 hl _ a2 false n0 _ _ _ rfl rfl rfl hN a0 c0 rfl (Fault.told_ret a1 a2 false (by rw [decide_eq_false h]; rfl)) (Fault.rtold_out a1 h a2) w hA hT
  · have H0 := Lib.hid (Since.refl w)
    have HT := Lib.hid hT
    have hm := hA.1
    unfold maxLen at hm
    clear hT hA hX
    go_enter Tryd.func4, Tryd.ntmps4
    go_wp2_with fail
    refine Fault.awake_k.calls HT.out H0.out ?_
    intro w9 h9
    have H9 := Lib.hid h9
    clear h9
    go_wp2_with fail
    go_ret
    exact ⟨rfl, H9.out⟩

theorem own : ownKnob Tryd.prog.godebug = none := by kernel_rfl
theorem laidOut : laidOutB Tryd.prog = true := by kernel_rfl

def laidL {H : Type} : List (String × DataW H) := [("claviger/fault.names", Rows.laid_claviger_fault_names), ("claviger/fault.classes", Rows.laid_claviger_fault_classes)]
theorem door_met (os : Os) (args : Array Value) : laidMetH Tryd.prog laidL ((World.doorLaid Tryd.prog 400 os).forCall (fun _ _ => 0) ⟨#[], args, []⟩).memory :=
  laidMetH_of_parts3 (fuel := 8) (laidMet_of_run' 8 (by kernel_rfl) (by kernel_rfl)) (by kernel_rfl) (by kernel_rfl)
set_option maxRecDepth 100000 in
theorem lifted (os : Os) (started : os.Started) (H : Type) (enc : TypeId × Value → H) :
    ReturnsInHanded {} Tryd.checked os 4 .any (fun w args => (Rows.faultCountsSpec.pre enc Tryd.prog Tryd.f4 [] false w args ∧ laidMetH Tryd.prog laidL w) ∧ sizedMet enc Tryd.prog Tryd.f4 (OpenSpec.ofChange Rows.faultCountsSpec) false w args)
      (Rows.faultCountsSpec.post enc Tryd.prog Tryd.f4 false true false false) := by
  refine returnsInHanded_of_change_and (C := Tryd.checked) (X := fun w _ => laidMetH Tryd.prog laidL w) (fun _ _ _ hh h => h.of_heap hh) own started (by kernel_rfl) Tryd.func4
    (ChangeSpec.witness_shaped (enc := enc) (C := Tryd.checked) (os := os) (X := fun w _ => laidMetH Tryd.prog laidL w) false (World.doorLaid Tryd.prog 400 os) #[.slice none 0 0, .int .i64 0, .bool false] 8 rfl (World.shaped_of_RefB (by kernel_rfl) (by kernel_rfl)) (by kernel_rfl) (by kernel_rfl) (by kernel_rfl) (door_met os _)) ?_
  intro W base args ds gs before hval0 hW _ _ hL _
  have hval : ∀ (j : Nat) t v, Tryd.f4.params[j]? = some t → args[j]? = some v → Value.okWide Tryd.prog W .any base t v := hval0
  have hW' := hW
  obtain ⟨p, q, hA0, hV, rfl, hfz, hnd⟩ := hW
  have hA : DataW.TrodAll enc Tryd.prog W 0 (fun _ => true) true Tryd.f4.params.toList args.toList ds p := hA0
  rw [Tryd.params4] at hA hval
  obtain ⟨v0, vs0, d0, ds0, p0, q0, hargs, rfl, rfl, h0, r0⟩ := trodAll_cons hA
  obtain ⟨v1, vs1, d1, ds1, p1, q1, rfl, rfl, rfl, h1, r1⟩ := trodAll_cons r0
  obtain ⟨v2, vs2, d2, ds2, p2, q2, rfl, rfl, rfl, h2, r2⟩ := trodAll_cons r1
  obtain ⟨rfl, rfl, rfl⟩ := trodAll_nil r2
  obtain rfl : args = #[v0, v1, v2] := by cases args; simp_all
  obtain ⟨rfl, rfl⟩ := trodVars_none hV
  obtain ⟨a0, n0, c0, rfl⟩ := okWide_slice Tryd.underlying29 (hval 0 29 v0 rfl rfl)
  have h0k := h0
  obtain ⟨fuel0, hf0⟩ := h0
  have hlt0 : ∀ x ∈ p0, x.block < W.heap.size := fun x hx => by simpa using hW'.lt x (by simp [hx])
  obtain ⟨x0, hA0, hN0, hX0⟩ := ints_in Tryd.underlying29 Tryd.underlying22 (by kernel_rfl) hf0 hlt0
  obtain ⟨a1, rfl, rfl, rfl, w1⟩ := open_int Tryd.underlying22 (hval 1 22 v1 rfl rfl) h1
  obtain ⟨a2, rfl, rfl, rfl⟩ := open_bool Tryd.underlying4 (hval 2 4 v2 rfl rfl) h2
  clear hA0 hval0
  simp only [List.append_nil] at hW'
  refine (walk W a0 n0 c0 x0 a1 a2 hA0 hN0 hX0 w1 (Fault.tabs_of hL)).mono fun e W' ⟨he, hg⟩ => ?_
  subst he
  exact ⟨_, rfl, _, _, _, _, _, [], hW', (trodAll_cons_mk (shut_bool Tryd.underlying4 _) trodAll_mk0), (trodAll_cons_mk (Below.trod laidOut (by kernel_rfl) (of_decide_eq_true (by kernel_rfl)) h0k hg hlt0) (trodAll_cons_mk (shut_int Tryd.underlying22 w1) (trodAll_cons_mk (shut_bool Tryd.underlying4 _) trodAll_mk0))), rfl, hg.frame _, fun h => by cases h⟩

theorem over : Rows.faultCountsRow.holds Tryd.pinned (OpenSpec.ofChange Rows.faultCountsSpec) :=
  OpenClaim.holds_of_wide 4 Tryd.f4 rfl rfl rfl rfl rfl rfl rfl ⟨rfl, rfl, rfl, rfl, rfl⟩ rfl rfl rfl rfl rfl (by kernel_rfl) Tryd.func4 (by kernel_rfl)
    (of_decide_eq_true (by kernel_rfl)) (by unfold Func.isWrapper; first | (rw [if_pos (by decide +kernel)]; kernel_rfl) | (rw [if_neg (by decide +kernel)]; exact ⟨rfl, rfl⟩))
    (fun os started H enc _ => lifted os started H enc)

theorem proved : Rows.FaultCountsCardSaid :=
  Claim7.holds_tied_plain_at .later [] [.data, .data] true Rows.faultCountsCard.stood.harness false
    over (fun _ h => by cases h) (by kernel_rfl) (fun _ h => by cases h) faultCounts_row_tie rfl ⟨rfl, rfl⟩ (by kernel_rfl) rfl
    (fun f fn hf hfn => by
      obtain rfl : f = 4 := Option.some.inj ((show Tryd.prog.funcNamed "claviger/clavigerlaw40.FaultCounts" = some 4 by kernel_rfl).symm.trans hf) |>.symm
      obtain rfl : fn = Tryd.f4 := (Option.some.inj (Tryd.func4.symm.trans hfn)).symm
      exact ⟨by kernel_rfl, fun j t ht => by
        rw [Tryd.params4] at ht
        have hm : t ∈ [29, 22, 4] := by simpa using Array.mem_of_getElem? ht
        have hall : ([29, 22, 4].all fun u => !Tryd.prog.wantsStandIn u) = true := by kernel_rfl
        exact (show Tryd.prog.wantsStandIn t = false by simpa using List.all_eq_true.1 hall t hm)⟩)
    (by kernel_rfl)

end Go.Proofs.YtcdjpdncgaeinaaDoor.faultCounts
