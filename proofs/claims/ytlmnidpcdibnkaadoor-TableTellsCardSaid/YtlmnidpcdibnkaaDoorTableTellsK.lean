/- The law TableTells: what any field may be is as the document says; no conditions. -/
import Derived.Test.YtlmnidpcdibnkaaDoorRows
import Derived.WalkKit
import Derived.ProofKit
import Derived.OpenShut
import Derived.Lib.Hide
import Derived.Test.YtlmnidpcdibnkaaDoorHq15
import Derived.Test.YtlmnidpcdibnkaaDoorCards
import Derived.Test.YtlmnidpcdibnkaaDoorTie
import Derived.LaidMore
import Derived.SevenTiedAt
import Derived.Stop.Joined
import Derived.Deep.RegionHeld3
namespace Go.Proofs.YtlmnidpcdibnkaaDoor.tableTells
open Go.ChangeShapes Go.WideShapes Go.ChangeAt Go.RowKit
open Table

/-- what stands while the law's test is made: the header's box, the table, and all that was there before -/
structure PT (w : World) (g : Nat) (u m v e : ByteArray) (W : World) : Prop where
  since : Since w W
  tabs : Tabs W
  c0 : W.cell? ⟨g, 0, none⟩ = some (.string u)
  c1 : W.cell? ⟨g, 1, none⟩ = some (.string m)
  c2 : W.cell? ⟨g, 2, none⟩ = some (.string v)
  c3 : W.cell? ⟨g, 3, none⟩ = some (.string e)
  lg : g < W.heap.size
theorem ptstep {w : World} {g : Nat} {u m v e : ByteArray} {W W' : World} (hb : Below W.heap.size W W') (h : Hid (PT w g u m v e W)) : Hid (PT w g u m v e W') := by
  have h1 := h.out
  exact Lib.hid ⟨h1.since.step hb, Kp.keep h1.tabs hb, (hb.cell (p := ⟨g, 0, none⟩) h1.lg).trans h1.c0, (hb.cell (p := ⟨g, 1, none⟩) h1.lg).trans h1.c1, (hb.cell (p := ⟨g, 2, none⟩) h1.lg).trans h1.c2, (hb.cell (p := ⟨g, 3, none⟩) h1.lg).trans h1.c3, Nat.lt_of_lt_of_le h1.lg hb.size⟩
theorem ptdrew {w : World} {g : Nat} {u m v e : ByteArray} {W : World} (h : Hid (PT w g u m v e W)) : Hid (PT w g u m v e W.drew) := ptstep (Below.drew (Below.refl _ _)) h
theorem ptS {w : World} {g : Nat} {u m v e : ByteArray} {W : World} (h : Hid (PT w g u m v e W)) : Hid (PT w g u m v e W) ∧ W.cell? ⟨g, 0, none⟩ = some (.string u) ∧ W.cell? ⟨g, 1, none⟩ = some (.string m) ∧ W.cell? ⟨g, 2, none⟩ = some (.string v) ∧ W.cell? ⟨g, 3, none⟩ = some (.string e) :=
  ⟨h, h.out.c0, h.out.c1, h.out.c2, h.out.c3⟩
theorem strsdrew {W : World} {v : Value} {L : List ByteArray} (h : Hid (StrsR W v L)) : Hid (StrsR W.drew v L) := Lib.hid (StrsR.below h.out (Below.drew (Below.refl _ _)))
set_option maxRecDepth 100000 in
set_option maxHeartbeats 4000000 in
theorem core (u m v e l : ByteArray) (l1 : (l.size : Int) ≤ 20) (c0 : Mak 7 #[.agg #[.string u, .string m, .string v, .string e]] (.bool true)) (q1 q2 q3 q4 : Bool) (x : Int) (X : ByteArray) (L : List ByteArray)
    (c1 : KMk Tabs 9 #[.string u, .string l] (.bool q1)) (d1 : Mak 10 #[.string u, .string l] (.bool q1))
    (c2 : KMk Tabs 11 #[.string u, .string m] (.bool q2)) (d2 : Mak 12 #[.string u, .string m] (.bool q2))
    (c3 : Ret 13 #[.string v] (.bool q3)) (d3 : Ret 14 #[.string v] (.bool q3))
    (c4 : Ret 15 #[.string e] (.bool q4)) (d4 : Mak 16 #[.string e] (.bool q4))
    (c5 : KMk Tabs 17 #[.agg #[.string u, .string m, .string v, .string e], .string l] (.int .i64 x)) (d5 : Mak 18 #[.agg #[.string u, .string m, .string v, .string e], .string l] (.int .i64 x))
    (c6 : KMk Tabs 19 #[.string u] (.string X)) (d6 : Ret 20 #[.string u] (.string X))
    (c7 : KMkS Tabs 22 #[.string l] L) (d7 : MakS 23 #[.string l] L) (w : World) (hT : Tabs w) :
    Calls Tryd.prog 3 #[.agg #[.string u, .string m, .string v, .string e], .string l] w fun x w' => x = .returned (.bool true) ∧ Since w w' := by
  have t1 : decide ((20 : Int) < (l.size : Int)) = false := decide_eq_false (by omega)
  have HS := Lib.hid (Since.alloc (Since.refl w) (.cells #[.string u, .string m, .string v, .string e] 23))
  have HT := Lib.hid (Kp.keep hT HS.out)
  have m0 : (w.alloc (.cells #[.string u, .string m, .string v, .string e] 23)).cell? ⟨w.heap.size, 0, none⟩ = some (.string u) := World.cell?_alloc_new _ _ _ _
  have m1 : (w.alloc (.cells #[.string u, .string m, .string v, .string e] 23)).cell? ⟨w.heap.size, 1, none⟩ = some (.string m) := World.cell?_alloc_new _ _ _ _
  have m2 : (w.alloc (.cells #[.string u, .string m, .string v, .string e] 23)).cell? ⟨w.heap.size, 2, none⟩ = some (.string v) := World.cell?_alloc_new _ _ _ _
  have m3 : (w.alloc (.cells #[.string u, .string m, .string v, .string e] 23)).cell? ⟨w.heap.size, 3, none⟩ = some (.string e) := World.cell?_alloc_new _ _ _ _
  have hg : w.heap.size < (w.alloc (.cells #[.string u, .string m, .string v, .string e] 23)).heap.size := by simp
  clear hT
  go_enter Tryd.func3, Tryd.ntmps3
  go_wp2_with fail
  refine c0.calls0 ?_
  intro wz hz
  replace m0 := (Below.cell hz (by exact hg)).trans m0
  replace m1 := (Below.cell hz (by exact hg)).trans m1
  replace m2 := (Below.cell hz (by exact hg)).trans m2
  replace m3 := (Below.cell hz (by exact hg)).trans m3
  replace hg := Nat.lt_of_lt_of_le hg (Below.size hz)
  replace HT := Lib.hid (Kp.keep HT.out hz)
  replace HS := Lib.hid (HS.out.step hz)
  clear hz
  go_wp2_with fail
  have hp : Hid (PT w w.heap.size u m v e wz) := Lib.hid ⟨HS.out, HT.out, m0, m1, m2, m3, hg⟩
  have c9 := awake_k
  clear HS HT m0 m1 m2 m3 hg c0
  dsimp only [List.append]
  go_region_held3 (fun W => Hid (PT w w.heap.size u m v e W) ∧ W.cell? ⟨w.heap.size, 0, none⟩ = some (.string u) ∧ W.cell? ⟨w.heap.size, 1, none⟩ = some (.string m) ∧ W.cell? ⟨w.heap.size, 2, none⟩ = some (.string v) ∧ W.cell? ⟨w.heap.size, 3, none⟩ = some (.string e))
    (first | exact ptS (by assumption) | exact ptS (ptdrew (by assumption)))
    (first
      | (go_at_call 9; refine (c1 _ (by first | exact (Hid.out (by assumption) : PT w w.heap.size u m v e _).tabs | exact (Hid.out (ptdrew (by assumption)) : PT w w.heap.size u m v e _).tabs)).mono ?_; rintro x wy ⟨rfl, hby⟩; have hpy := ptstep hby (by first | assumption | exact ptdrew (by assumption)); clear hby)
      | (go_at_call 10; refine (d1 _).mono ?_; rintro x wy ⟨rfl, hby⟩; have hpy := ptstep hby (by first | assumption | exact ptdrew (by assumption)); clear hby)
      | (go_at_call 11; refine (c2 _ (by first | exact (Hid.out (by assumption) : PT w w.heap.size u m v e _).tabs | exact (Hid.out (ptdrew (by assumption)) : PT w w.heap.size u m v e _).tabs)).mono ?_; rintro x wy ⟨rfl, hby⟩; have hpy := ptstep hby (by first | assumption | exact ptdrew (by assumption)); clear hby)
      | (go_at_call 12; refine (d2 _).mono ?_; rintro x wy ⟨rfl, hby⟩; have hpy := ptstep hby (by first | assumption | exact ptdrew (by assumption)); clear hby)
      | (go_at_call 13; refine (c3 _).mono ?_; rintro x wy ⟨rfl, rfl⟩)
      | (go_at_call 14; refine (d3 _).mono ?_; rintro x wy ⟨rfl, rfl⟩)
      | (go_at_call 15; refine (c4 _).mono ?_; rintro x wy ⟨rfl, rfl⟩)
      | (go_at_call 16; refine (d4 _).mono ?_; rintro x wy ⟨rfl, hby⟩; have hpy := ptstep hby (by first | assumption | exact ptdrew (by assumption)); clear hby)
      | (go_at_call 17; refine (c5 _ (by first | exact (Hid.out (by assumption) : PT w w.heap.size u m v e _).tabs | exact (Hid.out (ptdrew (by assumption)) : PT w w.heap.size u m v e _).tabs)).mono ?_; rintro x wy ⟨rfl, hby⟩; have hpy := ptstep hby (by first | assumption | exact ptdrew (by assumption)); clear hby)
      | (go_at_call 18; refine (d5 _).mono ?_; rintro x wy ⟨rfl, hby⟩; have hpy := ptstep hby (by first | assumption | exact ptdrew (by assumption)); clear hby)
      | (go_at_call 19; refine (c6 _ (by first | exact (Hid.out (by assumption) : PT w w.heap.size u m v e _).tabs | exact (Hid.out (ptdrew (by assumption)) : PT w w.heap.size u m v e _).tabs)).mono ?_; rintro x wy ⟨rfl, hby⟩; have hpy := ptstep hby (by first | assumption | exact ptdrew (by assumption)); clear hby)
      | (go_at_call 20; refine (d6 _).mono ?_; rintro x wy ⟨rfl, rfl⟩)
      | (go_at_call 22; refine (c7 _ (by first | exact (Hid.out (by assumption) : PT w w.heap.size u m v e _).tabs | exact (Hid.out (ptdrew (by assumption)) : PT w w.heap.size u m v e _).tabs)).mono ?_; rintro x wa ⟨va, rfl, hoa, hba⟩; have hpa := ptstep hba (by first | assumption | exact ptdrew (by assumption)); have HVA := Lib.hid hoa.read; clear hoa hba)
      | (go_at_call 23; refine (d7 _).mono ?_; rintro x wb ⟨vb, rfl, hob, hbb⟩; have hpb := ptstep hbb (by first | assumption | exact ptdrew (by assumption)); have HVB := Lib.hid hob.read; have HVA2 := Lib.hid (StrsR.below (Hid.out (by first | exact HVA | exact strsdrew HVA)) hbb); clear hob hbb)
      | (go_at_call 21; refine (equal_strs _ _ _ _ _ (Hid.out (by first | exact HVA2 | exact strsdrew HVA2)) (Hid.out (by first | exact HVB | exact strsdrew HVB)) true (decide_eq_true rfl).symm).mono ?_; rintro x wc ⟨rfl, hbc⟩; have hpc := ptstep hbc (by first | assumption | exact ptdrew (by assumption)); clear hbc)
      | (go_at_call 8; refine (c9 _ (by first | exact (Hid.out (by assumption) : PT w w.heap.size u m v e _).tabs | exact (Hid.out (ptdrew (by assumption)) : PT w w.heap.size u m v e _).tabs)).mono ?_; rintro x wy ⟨rfl, hby⟩; have hpy := ptstep hby (by first | assumption | exact ptdrew (by assumption)); clear hby))
  all_goals
    go_wp2_with fail
    go_ret
    exact ⟨rfl, (Hid.out (by first | assumption | exact ptdrew (by assumption)) : PT w w.heap.size u m v e _).since⟩
set_option maxRecDepth 100000 in
set_option maxHeartbeats 4000000 in
theorem core_big (u m v e l : ByteArray) (q : Bool) (hq : q = true → 20 < l.size) (c0 : Mak 7 #[.agg #[.string u, .string m, .string v, .string e]] (.bool q)) (w : World) (hT : Tabs w) :
    Calls Tryd.prog 3 #[.agg #[.string u, .string m, .string v, .string e], .string l] w fun x w' => x = .returned (.bool true) ∧ Since w w' := by
  have c9 := awake_k
  cases q
  · clear hq
    have HS := Lib.hid (Since.alloc (Since.refl w) (.cells #[.string u, .string m, .string v, .string e] 23))
    have HT := Lib.hid (Kp.keep hT HS.out)
    have m0 : (w.alloc (.cells #[.string u, .string m, .string v, .string e] 23)).cell? ⟨w.heap.size, 0, none⟩ = some (.string u) := World.cell?_alloc_new _ _ _ _
    have m1 : (w.alloc (.cells #[.string u, .string m, .string v, .string e] 23)).cell? ⟨w.heap.size, 1, none⟩ = some (.string m) := World.cell?_alloc_new _ _ _ _
    have m2 : (w.alloc (.cells #[.string u, .string m, .string v, .string e] 23)).cell? ⟨w.heap.size, 2, none⟩ = some (.string v) := World.cell?_alloc_new _ _ _ _
    have m3 : (w.alloc (.cells #[.string u, .string m, .string v, .string e] 23)).cell? ⟨w.heap.size, 3, none⟩ = some (.string e) := World.cell?_alloc_new _ _ _ _
    have hg : w.heap.size < (w.alloc (.cells #[.string u, .string m, .string v, .string e] 23)).heap.size := by simp
    clear hT
    go_enter Tryd.func3, Tryd.ntmps3
    go_wp2_with fail
    repeat (first
      | (with_reducible refine c0.calls0 ?_; intro wz hz; replace m0 := (Below.cell hz (by exact hg)).trans m0; replace m1 := (Below.cell hz (by exact hg)).trans m1; replace m2 := (Below.cell hz (by exact hg)).trans m2; replace m3 := (Below.cell hz (by exact hg)).trans m3; replace hg := Nat.lt_of_lt_of_le hg (Below.size hz); replace HT := Lib.hid (Kp.keep HT.out hz); replace HS := Lib.hid (HS.out.step hz); clear hz; try go_wp2_with fail)
      | (with_reducible refine c9.calls0 HT.out ?_; intro wz hz; replace m0 := (Below.cell hz (by exact hg)).trans m0; replace m1 := (Below.cell hz (by exact hg)).trans m1; replace m2 := (Below.cell hz (by exact hg)).trans m2; replace m3 := (Below.cell hz (by exact hg)).trans m3; replace hg := Nat.lt_of_lt_of_le hg (Below.size hz); replace HT := Lib.hid (Kp.keep HT.out hz); replace HS := Lib.hid (HS.out.step hz); clear hz; try go_wp2_with fail))
    go_ret
    exact ⟨rfl, HS.out⟩
  · have t1 : decide ((20 : Int) < (l.size : Int)) = true := decide_eq_true (by have := hq rfl; omega)
    clear hq
    have HS := Lib.hid (Since.alloc (Since.refl w) (.cells #[.string u, .string m, .string v, .string e] 23))
    have HT := Lib.hid (Kp.keep hT HS.out)
    have m0 : (w.alloc (.cells #[.string u, .string m, .string v, .string e] 23)).cell? ⟨w.heap.size, 0, none⟩ = some (.string u) := World.cell?_alloc_new _ _ _ _
    have m1 : (w.alloc (.cells #[.string u, .string m, .string v, .string e] 23)).cell? ⟨w.heap.size, 1, none⟩ = some (.string m) := World.cell?_alloc_new _ _ _ _
    have m2 : (w.alloc (.cells #[.string u, .string m, .string v, .string e] 23)).cell? ⟨w.heap.size, 2, none⟩ = some (.string v) := World.cell?_alloc_new _ _ _ _
    have m3 : (w.alloc (.cells #[.string u, .string m, .string v, .string e] 23)).cell? ⟨w.heap.size, 3, none⟩ = some (.string e) := World.cell?_alloc_new _ _ _ _
    have hg : w.heap.size < (w.alloc (.cells #[.string u, .string m, .string v, .string e] 23)).heap.size := by simp
    clear hT
    go_enter Tryd.func3, Tryd.ntmps3
    go_wp2_with fail
    repeat (first
      | (with_reducible refine c0.calls0 ?_; intro wz hz; replace m0 := (Below.cell hz (by exact hg)).trans m0; replace m1 := (Below.cell hz (by exact hg)).trans m1; replace m2 := (Below.cell hz (by exact hg)).trans m2; replace m3 := (Below.cell hz (by exact hg)).trans m3; replace hg := Nat.lt_of_lt_of_le hg (Below.size hz); replace HT := Lib.hid (Kp.keep HT.out hz); replace HS := Lib.hid (HS.out.step hz); clear hz; try go_wp2_with fail)
      | (with_reducible refine c9.calls0 HT.out ?_; intro wz hz; replace m0 := (Below.cell hz (by exact hg)).trans m0; replace m1 := (Below.cell hz (by exact hg)).trans m1; replace m2 := (Below.cell hz (by exact hg)).trans m2; replace m3 := (Below.cell hz (by exact hg)).trans m3; replace hg := Nat.lt_of_lt_of_le hg (Below.size hz); replace HT := Lib.hid (Kp.keep HT.out hz); replace HS := Lib.hid (HS.out.step hz); clear hz; try go_wp2_with fail))
    go_ret
    exact ⟨rfl, HS.out⟩
set_option maxRecDepth 100000 in
theorem walk (u m v e l : ByteArray) (_w0 : u.size ≤ maxLen) (_w1 : m.size ≤ maxLen) (_w2 : v.size ≤ maxLen) (_w3 : e.size ≤ maxLen) (_w4 : l.size ≤ maxLen) (w : World) (hT : Tabs w) :
    Calls Tryd.prog 3 #[.agg #[.string u, .string m, .string v, .string e], .string l] w fun x w' => x = .returned (.bool true) ∧ Below w.heap.size w w' := by
  have c0 := Plain.head_mak u m v e _ rfl
  cases hq : Plain.headB u m v e with
  | false =>
    rw [hq] at c0
    exact core_big u m v e l false (fun h => by cases h) c0 w hT
  | true =>
    rw [hq] at c0
    by_cases hb : 20 < l.size
    · exact core_big u m v e l true (fun _ => hb) c0 w hT
    · exact core u m v e l (by omega) c0 _ _ _ _ _ _ _ (usage_k u l _ rfl) (rusage_mak u l _ rfl) (mode_k u m _ rfl) (rmode_mak u m _ rfl) (version_ret v _ rfl) (rversion_ret v _ rfl) (export_ret e _ rfl) (rexport_mak e _ rfl) (check_k u m v e l _ rfl) (rcheck_mak u m v e l _ rfl)
        (modes_k u _ rfl) (rmodes_ret u _ rfl) (usages_k l _ rfl) (rusages_mks l _ rfl) w hT

set_option maxRecDepth 100000 in
theorem own : ownKnob Tryd.prog.godebug = none := by kernel_rfl

def laidL {H : Type} : List (String × DataW H) := [("claviger/table.lines", Rows.laid_claviger_table_lines)]
set_option maxRecDepth 100000 in
theorem door_met (os : Os) (args : Array Value) : laidMetH Tryd.prog laidL ((World.doorLaid Tryd.prog 400 os).forCall (fun _ _ => 0) ⟨#[], args, []⟩).memory :=
  laidMetH_of_parts3 (fuel := 8) (laidMet_of_run' 8 (by kernel_rfl) (by kernel_rfl)) (by kernel_rfl) (by kernel_rfl)
set_option maxRecDepth 100000 in
theorem lifted (os : Os) (started : os.Started) (H : Type) (enc : TypeId × Value → H) :
    ReturnsInHanded {} Tryd.checked os 3 .any (fun w args => (Rows.tableTellsSpec.pre enc Tryd.prog Tryd.f3 [] false w args ∧ laidMetH Tryd.prog laidL w) ∧ sizedMet enc Tryd.prog Tryd.f3 (OpenSpec.ofChange Rows.tableTellsSpec) false w args)
      (Rows.tableTellsSpec.post enc Tryd.prog Tryd.f3 false true false false) := by
  refine returnsInHanded_of_change_and (C := Tryd.checked) (X := fun w _ => laidMetH Tryd.prog laidL w) (fun _ _ _ hh h => h.of_heap hh) own started (by kernel_rfl) Tryd.func3
    (ChangeSpec.witness_shaped (enc := enc) (C := Tryd.checked) (os := os) (X := fun w _ => laidMetH Tryd.prog laidL w) false (World.doorLaid Tryd.prog 400 os) #[.agg #[.string ⟨#[]⟩, .string ⟨#[]⟩, .string ⟨#[]⟩, .string ⟨#[]⟩], .string ⟨#[]⟩] 8 rfl (World.shaped_of_RefB (by kernel_rfl) (by kernel_rfl)) (by kernel_rfl) (by kernel_rfl) (by kernel_rfl) (door_met os _)) ?_
  intro W base args ds gs before hval0 hW _ _ hL _
  have hval : ∀ (j : Nat) t v, Tryd.f3.params[j]? = some t → args[j]? = some v → Value.okWide Tryd.prog W .any base t v := hval0
  have hW' := hW
  obtain ⟨p, q, hA0, hV, rfl, hfz, hnd⟩ := hW
  have hA : DataW.TrodAll enc Tryd.prog W 0 (fun _ => true) true Tryd.f3.params.toList args.toList ds p := hA0
  rw [Tryd.params3] at hA hval
  obtain ⟨v0, vs0, d0, ds0, p0, q0, hargs, rfl, rfl, h0, r0⟩ := trodAll_cons hA
  obtain ⟨v1, vs1, d1, ds1, p1, q1, rfl, rfl, rfl, h1, r1⟩ := trodAll_cons r0
  obtain ⟨rfl, rfl, rfl⟩ := trodAll_nil r1
  obtain rfl : args = #[v0, v1] := by cases args; simp_all
  obtain ⟨rfl, rfl⟩ := trodVars_none hV
  obtain ⟨c0_0, c0_1, c0_2, c0_3, y0_0, y0_1, y0_2, y0_3, m0, rfl, rfl, rfl, hy0_0, hy0_1, hy0_2, hy0_3⟩ := Go.Joins.open_agg4 Tryd.underlying23 (by kernel_rfl) (by kernel_rfl) (hval 0 23 v0 rfl rfl) h0
  obtain ⟨a0_0, e0_0, rfl, w0_0⟩ := DataW.trod_string Tryd.underlying9 hy0_0
  simp only [List.cons.injEq, and_true] at e0_0
  subst e0_0
  obtain ⟨a0_1, e0_1, rfl, w0_1⟩ := DataW.trod_string Tryd.underlying9 hy0_1
  simp only [List.cons.injEq, and_true] at e0_1
  subst e0_1
  obtain ⟨a0_2, e0_2, rfl, w0_2⟩ := DataW.trod_string Tryd.underlying9 hy0_2
  simp only [List.cons.injEq, and_true] at e0_2
  subst e0_2
  obtain ⟨a0_3, e0_3, rfl, w0_3⟩ := DataW.trod_string Tryd.underlying9 hy0_3
  simp only [List.cons.injEq, and_true] at e0_3
  subst e0_3
  obtain ⟨a1, rfl, rfl, rfl, w1⟩ := Go.ChangeMaps.open_string Tryd.underlying9 (hval 1 9 v1 rfl rfl) h1
  clear hA0 hval0
  simp only [List.append_nil] at hW'
  refine (walk a0_0 a0_1 a0_2 a0_3 a1 w0_0 w0_1 w0_2 w0_3 w1 W (Table.tabs_of hL)).mono fun e W' ⟨he, hg⟩ => ?_
  subst he
  exact ⟨_, rfl, _, _, _, _, _, [], hW', (trodAll_cons_mk (shut_bool Tryd.underlying4 _) trodAll_mk0), (trodAll_cons_mk (Go.Joins.shut_agg4 (y0 := (.lit (.string a0_0.data.toList), [])) (y1 := (.lit (.string a0_1.data.toList), [])) (y2 := (.lit (.string a0_2.data.toList), [])) (y3 := (.lit (.string a0_3.data.toList), [])) Tryd.underlying23 (by kernel_rfl) (by kernel_rfl) (Go.Joins.field_of_Trod (Go.ChangeMaps.shut_string Tryd.underlying9 w0_0) rfl) (Go.Joins.field_of_Trod (Go.ChangeMaps.shut_string Tryd.underlying9 w0_1) rfl) (Go.Joins.field_of_Trod (Go.ChangeMaps.shut_string Tryd.underlying9 w0_2) rfl) (Go.Joins.field_of_Trod (Go.ChangeMaps.shut_string Tryd.underlying9 w0_3) rfl)) (trodAll_cons_mk (Go.ChangeMaps.shut_string Tryd.underlying9 w1) trodAll_mk0)), rfl, hg.frame _, fun h => by cases h⟩

set_option maxRecDepth 100000 in
theorem over : Rows.tableTellsRow.holds Tryd.pinned (OpenSpec.ofChange Rows.tableTellsSpec) :=
  OpenClaim.holds_of_wide 3 Tryd.f3 rfl rfl rfl rfl rfl rfl rfl ⟨rfl, rfl, rfl, rfl, rfl⟩ rfl rfl rfl rfl rfl (by kernel_rfl) Tryd.func3 (by kernel_rfl)
    (of_decide_eq_true (by kernel_rfl)) (by unfold Func.isWrapper; first | (rw [if_pos (by decide +kernel)]; kernel_rfl) | (rw [if_neg (by decide +kernel)]; exact ⟨rfl, rfl⟩))
    (fun os started H enc _ => lifted os started H enc)

set_option maxRecDepth 100000 in
theorem proved : Rows.TableTellsCardSaid :=
  Claim7.holds_tied_plain_at .later [] [.data] true Rows.tableTellsCard.stood.harness false
    over (fun _ h => by cases h) (by kernel_rfl) (fun _ h => by cases h) tableTells_row_tie rfl ⟨rfl, rfl⟩ (by kernel_rfl) rfl
    (fun f fn hf hfn => by
      obtain rfl : f = 3 := Option.some.inj ((show Tryd.prog.funcNamed "claviger/clavigerlaw30.TableTells" = some 3 by kernel_rfl).symm.trans hf) |>.symm
      obtain rfl : fn = Tryd.f3 := (Option.some.inj (Tryd.func3.symm.trans hfn)).symm
      exact ⟨by kernel_rfl, fun j t ht => by
        rw [Tryd.params3] at ht
        have hm : t ∈ [23, 9] := by simpa using Array.mem_of_getElem? ht
        have hall : ([23, 9].all fun u => !Tryd.prog.wantsStandIn u) = true := by kernel_rfl
        exact (show Tryd.prog.wantsStandIn t = false by simpa using List.all_eq_true.1 hall t hm)⟩)
    (by kernel_rfl)

end Go.Proofs.YtlmnidpcdibnkaaDoor.tableTells
