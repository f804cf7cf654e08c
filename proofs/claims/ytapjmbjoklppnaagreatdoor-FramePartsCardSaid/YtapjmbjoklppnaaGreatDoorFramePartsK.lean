/- The law FrameParts: the parts of a key block stand one behind the other, from its beginning to its end; no conditions. -/
import Derived.Test.YtapjmbjoklppnaaGreatDoorRows
import Derived.WalkKit
import Derived.ProofKit
import Derived.OpenShut
import Derived.Lib.Hide
import Derived.Test.YtapjmbjoklppnaaGreatDoorFs33
import Derived.Test.YtapjmbjoklppnaaGreatDoorFs34
import Derived.Test.YtapjmbjoklppnaaGreatDoorCards
import Derived.Test.YtapjmbjoklppnaaGreatDoorTie
import Derived.LaidMore
import Derived.SevenTiedAt
import Derived.Stop.Joined
namespace Go.Proofs.YtapjmbjoklppnaaGreatDoor.frameParts
open Go.ChangeShapes Go.WideShapes Go.ChangeAt Go.RowKit
open Att Templ Header Go.Proofs.YtapjmbjoklppnaaGreatDoor.Frame

set_option maxRecDepth 100000 in
set_option maxHeartbeats 4000000 in
theorem core_big (w : World) (b : ByteArray) (l4 : 3000 < b.size) (hT : KH w) : Calls Tryz.prog 4 #[.string b] w fun x w' => x = .returned (.bool true) ∧ Since w w' := by
  have t4 : decide ((3000 : Int) < (b.size : Int)) = true := decide_eq_true (by omega)
  have HS := Lib.hid (Since.refl w)
  have HT := Lib.hid hT
  have c9 := awake_k
  clear l4 hT
  go_enter Tryz.func4, Tryz.ntmps4
  go_wp2_with fail
  refine (c9.calls0 HT.out) ?_
  intro w3 h3
  replace HS := Lib.hid (HS.out.step (by first | exact h3 | exact (Since.alloc (Since.refl _) _).step h3 | exact (Since.alloc (Since.alloc (Since.refl _) _) _).step h3 | exact (Since.drew (Since.refl _)).step h3 | exact (Since.alloc (Since.alloc (Since.alloc (Since.refl _) _) _) _).step h3))
  clear h3
  go_wp2_with fail
  go_ret
  exact ⟨rfl, HS.out⟩
set_option maxRecDepth 100000 in
set_option maxHeartbeats 8000000 in
theorem core_bad (w : World) (b : ByteArray) (l4 : b.size ≤ 3000) (F : Int) (e1 : (F != 0) = true) (_e2 : (F == 0) = false) (c3 : Mak 11 #[.string b] (.tuple #[.agg Z9, .int .i64 F])) (c4 : KMk KH 13 #[.string b] (.slice none 0 0)) (hT : KH w) : Calls Tryz.prog 4 #[.string b] w fun x w' => x = .returned (.bool true) ∧ Since w w' := by
  have t4 : decide ((3000 : Int) < (b.size : Int)) = false := decide_eq_false (by omega)
  have HS := Lib.hid (Since.refl w)
  have HT := Lib.hid hT
  have c9 := awake_k
  unfold Z9 at c3
  clear l4 hT
  go_enter Tryz.func4, Tryz.ntmps4
  go_wp2_with fail
  refine c3.calls0 ?_
  intro w1 h1
  have hq := Lib.hid (hb_new w1 KH (Kp.keep HT.out h1) #[.string ⟨#[]⟩, .string ⟨#[]⟩, .string ⟨#[]⟩, .string ⟨#[]⟩, .string ⟨#[]⟩, .slice none 0 0, .string ⟨#[]⟩, .string ⟨#[]⟩, .string ⟨#[]⟩] 35)
  replace HS := Lib.hid ((HS.out.step h1).step hq.out.since)
  clear h1 HT
  go_wp2_with fail
  refine (c4.calls0 hq.out.tabs) ?_
  intro w2 h2
  replace hq := Lib.hid (hq.out.step (by first | exact h2 | exact (Since.alloc (Since.refl _) _).step h2 | exact (Since.alloc (Since.alloc (Since.refl _) _) _).step h2 | exact (Since.drew (Since.refl _)).step h2 | exact (Since.alloc (Since.alloc (Since.alloc (Since.refl _) _) _) _).step h2))
  replace HS := Lib.hid (HS.out.step (by first | exact h2 | exact (Since.alloc (Since.refl _) _).step h2 | exact (Since.alloc (Since.alloc (Since.refl _) _) _).step h2 | exact (Since.drew (Since.refl _)).step h2 | exact (Since.alloc (Since.alloc (Since.alloc (Since.refl _) _) _) _).step h2))
  clear h2
  go_wp2_with fail
  refine (c9.calls0 hq.out.tabs) ?_
  intro w3 h3
  replace HS := Lib.hid (HS.out.step (by first | exact h3 | exact (Since.alloc (Since.refl _) _).step h3 | exact (Since.alloc (Since.alloc (Since.refl _) _) _).step h3 | exact (Since.drew (Since.refl _)).step h3 | exact (Since.alloc (Since.alloc (Since.alloc (Since.refl _) _) _) _).step h3))
  clear h3
  go_wp2_with fail
  go_ret
  exact ⟨rfl, HS.out⟩
def Cells4 (W : World) (g : Nat) (a0 a1 aD aM aZ : Nat) : Prop := W.cell? ⟨g, 0, none⟩ = some (.complex .f64 a0 a1) ∧ W.cell? ⟨g, 1, none⟩ = some (.complex .f64 a1 aD) ∧ W.cell? ⟨g, 2, none⟩ = some (.complex .f64 aD aM) ∧ W.cell? ⟨g, 3, none⟩ = some (.complex .f64 aM aZ)
set_option maxRecDepth 100000 in
set_option maxHeartbeats 16000000 in
theorem core_good (w : World) (b : ByteArray) (l4 : b.size ≤ 3000) (D M Z : Nat) (hZ : b.size = Z) (l u m v e : ByteArray) (L : List A2) (H T C G : ByteArray) (a0 a1 aD aM aZ : Nat)
    (x0 : Flt.fl 0 = a0) (x1 : Flt.fl 16 = a1) (xD : Flt.fl (D : Int) = aD) (xM : Flt.fl (M : Int) = aM) (xZ : Flt.fl (Z : Int) = aZ)
    (c3 : CutR b l u m v e L (H ++ T) C G) (c4 : PartsOk b D M Z)
    (f1 : Ret 14 #[.int .i64 0, .int .i64 16] (.complex .f64 a0 a1)) (f2 : Ret 15 #[.string b, .complex .f64 a0 a1] (.string H)) (f3 : Ret 15 #[.string b, .complex .f64 a1 aD] (.string T)) (hHT : H.size + T.size ≤ 140737488355328)
    (f4 : Ret 16 #[.complex .f64 aM aZ] (.int .i64 (Z : Int))) (f5 : Ret 16 #[.complex .f64 a0 a1] (.int .i64 16)) (f6 : Ret 16 #[.complex .f64 a1 aD] (.int .i64 (D : Int))) (f7 : Ret 16 #[.complex .f64 aD aM] (.int .i64 (M : Int)))
    (f8 : Ret 17 #[.complex .f64 a1 aD] (.int .i64 16)) (f9 : Ret 17 #[.complex .f64 aD aM] (.int .i64 (D : Int))) (f10 : Ret 17 #[.complex .f64 aM aZ] (.int .i64 (M : Int)))
    (f11 : ∀ W g, g < W.heap.size → Cells4 W g a0 a1 aD aM aZ → Calls Tryz.prog 18 #[.slice (some ⟨g, 0, none⟩) 4 4] W fun e w' => e = .returned (.complex .f64 4616189618054758400 aZ) ∧ W = w')
    (o0 : (FloatKind.f64.format.order a0 a0 == some .eq) = true) (o1 : (FloatKind.f64.format.order a1 a1 == some .eq) = true) (o4 : (FloatKind.f64.format.order 4616189618054758400 4616189618054758400 == some .eq) = true) (oZ : (FloatKind.f64.format.order aZ aZ == some .eq) = true) (hn : floatOfInt FloatKind.f64 (b.size : Int) = aZ) (hT : KH w) : Calls Tryz.prog 4 #[.string b] w fun x w' => x = .returned (.bool true) ∧ Since w w' := by
  have t4 : decide ((3000 : Int) < (b.size : Int)) = false := decide_eq_false (by omega)
  have t5 : ((Z : Int) != (b.size : Int)) = false := bne_eq_false_iff_eq.2 (by omega)
  have s1 : ((H ++ T).toList == (H ++ T).toList) = true := beq_self_eq_true _
  have d1 : ((D : Int) != (D : Int)) = false := bne_eq_false_iff_eq.2 rfl
  have d2 : ((M : Int) != (M : Int)) = false := bne_eq_false_iff_eq.2 rfl
  have HS := Lib.hid (Since.refl w)
  have HT := Lib.hid hT
  have c9 := awake_k
  have F1 := Lib.hid f1
  have F2 := Lib.hid f2
  have F3 := Lib.hid f3
  have F4 := Lib.hid f4
  have F5 := Lib.hid f5
  have F6 := Lib.hid f6
  have F7 := Lib.hid f7
  have F8 := Lib.hid f8
  have F9 := Lib.hid f9
  have F10 := Lib.hid f10
  have F11 := Lib.hid f11
  clear l4 hT hZ f1 f2 f3 f4 f5 f6 f7 f8 f9 f10 f11
  go_enter Tryz.func4, Tryz.ntmps4
  go_wp2_with fail
  refine c3.calls0 ?_
  intro a w1 ha h1
  obtain ⟨A, d, hav, _⟩ := ha.slice
  subst hav
  clear ha
  unfold C9
  have hq := Lib.hid (hb_new w1 KH (Kp.keep HT.out h1) #[.string l, .string u, .string m, .string v, .string e, .slice A L.length d, .string (H ++ T), .string C, .string G] 35)
  replace HS := Lib.hid ((HS.out.step h1).step hq.out.since)
  clear h1 HT
  go_wp2_with fail
  refine c4.calls0 hq.out.tabs ?_
  rintro g w2 ⟨hg, hc⟩ h2
  replace hq := Lib.hid (hq.out.step h2)
  replace HS := Lib.hid (HS.out.step h2)
  have hC : Cells4 w2 g a0 a1 aD aM aZ := by
    have e0 : w2.cell? ⟨g, 0, none⟩ = some (.complex .f64 (Flt.fl 0) (Flt.fl 16)) := hc 0 _ rfl
    have e1 : w2.cell? ⟨g, 1, none⟩ = some (.complex .f64 (Flt.fl 16) (Flt.fl (D : Int))) := hc 1 _ rfl
    have e2 : w2.cell? ⟨g, 2, none⟩ = some (.complex .f64 (Flt.fl (D : Int)) (Flt.fl (M : Int))) := hc 2 _ rfl
    have e3 : w2.cell? ⟨g, 3, none⟩ = some (.complex .f64 (Flt.fl (M : Int)) (Flt.fl (Z : Int))) := hc 3 _ rfl
    rw [x0, x1] at e0
    rw [x1, xD] at e1
    rw [xD, xM] at e2
    rw [xM, xZ] at e3
    exact ⟨e0, e1, e2, e3⟩
  have hP : Hid (HB w KH g #[.complex .f64 a0 a1, .complex .f64 a1 aD, .complex .f64 aD aM, .complex .f64 aM aZ] w2) := Lib.hid ⟨HS.out, hq.out.tabs, fun i x hx => by
    obtain ⟨e0, e1, e2, e3⟩ := hC
    match i, hx with
    | 0, hx => cases hx; exact e0
    | 1, hx => cases hx; exact e1
    | 2, hx => cases hx; exact e2
    | 3, hx => cases hx; exact e3, hg⟩
  clear h2 hc hC hg x0 x1 xD xM xZ HS
  obtain ⟨n0, n1, n2, n3, n4, n5, n6, n7, n8⟩ := hb9 hq.out
  clear n0 n1 n2 n3 n4 n5 n7 n8
  obtain ⟨_, m0, m1, m2, m3⟩ := hb4 hP
  go_wp2_with fail
  go_quiet (first
    | (go_at_call 14; with_reducible exact Calls.quiet_of_same (stillR F1.out _))
    | (go_at_call 15; with_reducible exact Calls.quiet_of_same (stillR F2.out _))
    | (go_at_call 15; with_reducible exact Calls.quiet_of_same (stillR F3.out _))
    | (go_at_call 16; with_reducible exact Calls.quiet_of_same (stillR F4.out _)))
  replace hP := Lib.hid (hP.out.step (belowN _ nq))
  clear m0 m1 m2 m3 n6 hq
  go_wp2_with fail
  go_loopw [6] (fun i wi => (i = .int .i64 1 ∨ i = .int .i64 2 ∨ i = .int .i64 3 ∨ i = .int .i64 4) ∧ Hid (HB w KH g #[.complex .f64 a0 a1, .complex .f64 a1 aD, .complex .f64 aD aM, .complex .f64 aM aZ] wi)) (fun i _ => 4 - (intOf i).toNat)
  case atStart => exact ⟨Or.inl rfl, hP⟩
  case round =>
    clear hP
    obtain ⟨hi, hP⟩ := hrel
    rcases hi with rfl | rfl | rfl | rfl
    · obtain ⟨_, m0, m1, m2, m3⟩ := hb4 hP
      go_wp2_with fail
      go_quiet (first
        | (go_at_call 17; with_reducible exact Calls.quiet_of_same (stillR F8.out _))
        | (go_at_call 16; with_reducible exact Calls.quiet_of_same (stillR F5.out _)))
      replace hP := Lib.hid (hP.out.step (belowN _ nq))
      clear m0 m1 m2 m3
      go_wp2_with fail
      go_roundw
      case rel => exact ⟨Or.inr (Or.inl rfl), hP⟩
      case measure => decide
    · obtain ⟨_, m0, m1, m2, m3⟩ := hb4 hP
      go_wp2_with fail
      go_quiet (first
        | (go_at_call 17; with_reducible exact Calls.quiet_of_same (stillR F9.out _))
        | (go_at_call 16; with_reducible exact Calls.quiet_of_same (stillR F6.out _)))
      replace hP := Lib.hid (hP.out.step (belowN _ nq))
      clear m0 m1 m2 m3
      go_wp2_with fail
      go_roundw
      case rel => exact ⟨Or.inr (Or.inr (Or.inl rfl)), hP⟩
      case measure => decide
    · obtain ⟨_, m0, m1, m2, m3⟩ := hb4 hP
      go_wp2_with fail
      go_quiet (first
        | (go_at_call 17; with_reducible exact Calls.quiet_of_same (stillR F10.out _))
        | (go_at_call 16; with_reducible exact Calls.quiet_of_same (stillR F7.out _)))
      replace hP := Lib.hid (hP.out.step (belowN _ nq))
      clear m0 m1 m2 m3
      go_wp2_with fail
      go_roundw
      case rel => exact ⟨Or.inr (Or.inr (Or.inr rfl)), hP⟩
      case measure => decide
    · obtain ⟨_, m0, m1, m2, m3⟩ := hb4 hP
      have HS := Lib.hid hP.out.since
      have hc := F11.out _ g hP.out.lg ⟨m0, m1, m2, m3⟩
      clear m0 m1 m2 m3
      go_wp2_with fail
      refine hc.mono ?_
      rintro x w3 ⟨rfl, rfl⟩
      clear hc
      go_wp2_with fail
      refine (c9.calls0 hP.out.tabs) ?_
      intro w9 h9
      replace HS := Lib.hid (HS.out.step (by first | exact h9 | exact (Since.alloc (Since.refl _) _).step h9 | exact (Since.alloc (Since.alloc (Since.refl _) _) _).step h9 | exact (Since.drew (Since.refl _)).step h9 | exact (Since.alloc (Since.alloc (Since.alloc (Since.refl _) _) _) _).step h9))
      clear h9
      go_wp2_with fail
      go_ret
      exact ⟨rfl, HS.out⟩
theorem ext_app (b P : ByteArray) (D : Nat) (h16 : 16 ≤ D) (hD : D ≤ b.size) (hP : b.extract 0 D = P) : Span.cutS b 0 16 ++ Span.cutS b 16 D = P := by
  unfold Span.cutS
  rw [if_pos (by omega), if_pos hD, ← hP]
  apply ba_ext
  rw [app_list, list_bs, list_bs, ext_list, List.drop_zero, Nat.sub_zero, Nat.sub_zero]
  have e : b.data.toList.take D = (b.data.toList.take D).take 16 ++ (b.data.toList.take D).drop 16 := (List.take_append_drop 16 _).symm
  rw [e, List.take_take, List.drop_take, Nat.min_eq_left h16]
set_option maxRecDepth 100000 in
theorem walk (b : ByteArray) (_w0 : b.size ≤ maxLen) (w : World) (hT : KH w) : Calls Tryz.prog 4 #[.string b] w fun x w' => x = .returned (.bool true) ∧ Below w.heap.size w w' := by
  by_cases l4 : 3000 < b.size
  · exact core_big w b l4 hT
  replace l4 : b.size ≤ 3000 := by omega
  by_cases hb : cutE b = 0
  case neg =>
    exact core_bad w b l4 _ (bne_iff_ne.2 hb) (beq_eq_false_iff_ne.2 hb) (rcut_bad b (by omega) hb) (parts_bad b _ (beq_eq_false_iff_ne.2 hb) (split_bad b (by omega) hb)) hT
  obtain ⟨d1, d2, d3, _⟩ := cut_sizes b hb
  have c3 := rcut_good b hb
  have c4 : PartsOk b (cutD b) (b.size - 32) b.size := parts_good b hb
  obtain ⟨D, hD⟩ : ∃ D, cutD b = D := ⟨_, rfl⟩
  obtain ⟨M, hM⟩ : ∃ M, b.size - 32 = M := ⟨_, rfl⟩
  obtain ⟨Z, hZ⟩ : ∃ Z, b.size = Z := ⟨_, rfl⟩
  rw [hD] at c3 c4 d1 d2
  rw [← ext_app b _ D d1 (by omega) rfl] at c3
  have y0 : Span.Sp 0 16 := ⟨by omega, by omega⟩
  have y1 : Span.Sp 16 D := ⟨by omega, by omega⟩
  have y2 : Span.Sp D M := ⟨by omega, by omega⟩
  have y3 : Span.Sp M Z := ⟨by omega, by omega⟩
  rw [hM] at c4
  have hz2 : (Span.cutS b 0 16).size + (Span.cutS b 16 D).size ≤ 140737488355328 := by
    have h := congrArg ByteArray.size (ext_app b _ D d1 (by omega) rfl)
    rw [ByteArray.size_append, ByteArray.size_extract] at h
    omega
  have ord : ∀ x : Nat, x ≤ 65552 → (FloatKind.f64.format.order (Flt.fl (x : Int)) (Flt.fl (x : Int)) == some .eq) = true := fun x hx => by
    rw [Flt.order_is _ _ (x : Int) (x : Int) (Flt.fl_is _ (by omega)) (Flt.fl_is _ (by omega)), Std.compare_self]; rfl
  have o4 : Flt.fl ((4 : Nat) : Int) = 4616189618054758400 := by decide +kernel
  refine core_good w b l4 D M Z hZ _ _ _ _ _ _ _ _ _ _ _ _ _ _ _ rfl rfl rfl rfl rfl c3 (by rw [← hZ]; exact c4) (Span.of_yes 0 16 y0) (Span.cut_ret b 0 16 y0 (by omega) _ rfl) (Span.cut_ret b 16 D y1 (by omega) _ rfl) hz2
    (Span.to_ret M Z y3) (Span.to_ret 0 16 y0) (Span.to_ret 16 D y1) (Span.to_ret D M y2) (Span.from_ret 16 D y1) (Span.from_ret D M y2) (Span.from_ret M Z y3) (fun W g hg hc => ?_) (ord 0 (by omega)) (ord 16 (by omega)) (by rw [← o4]; exact ord 4 (by omega)) (ord Z (by omega)) (by rw [hZ]; rfl) hT
  obtain ⟨e0, e1, e2, e3⟩ := hc
  have hv : Span.SpansS W (.slice (some ⟨g, 0, none⟩) 4 4) [(0, 16), (16, D), (D, M), (M, Z)] := by
    refine ⟨rfl, some ⟨g, 0, none⟩, 4, rfl, Nat.le_refl _, by show 4 ≤ maxLen; decide, Or.inr ⟨g, 0, rfl, hg, fun i x hx => ?_⟩⟩
    match i, hx with
    | 0, hx => cases hx; exact e0
    | 1, hx => cases hx; exact e1
    | 2, hx => cases hx; exact e2
    | 3, hx => cases hx; exact e3
  exact Span.count_any W _ _ hv (by
    intro p hp
    simp only [List.mem_cons, List.not_mem_nil, or_false] at hp
    rcases hp with rfl | rfl | rfl | rfl
    · exact y0
    · exact y1
    · exact y2
    · exact y3) (by show 4 ≤ 100000; omega) _ _ o4.symm (by
    have : Span.total [(0, 16), (16, D), (D, M), (M, Z)] = Z := by
      simp only [Span.total]
      omega
    rw [this])

set_option maxRecDepth 100000 in
theorem own : ownKnob Tryz.prog.godebug = none := by kernel_rfl

def laidL {H : Type} : List (String × DataW H) := [("claviger/kind.lines", Rows.laid_claviger_kind_lines), ("claviger/table.lines", Rows.laid_claviger_table_lines)]
set_option maxRecDepth 100000 in
theorem door_met (os : Os) (args : Array Value) : laidMetH Tryz.prog laidL ((World.doorLaid Tryz.prog 400 os).forCall (fun _ _ => 0) ⟨#[], args, []⟩).memory :=
  laidMetH_of_parts3 (fuel := 8) (laidMet_of_run' 8 (by kernel_rfl) (by kernel_rfl)) (by kernel_rfl) (by kernel_rfl)
set_option maxRecDepth 100000 in
theorem lifted (os : Os) (started : os.Started) (H : Type) (enc : TypeId × Value → H) :
    ReturnsInHanded {} Tryz.checked os 4 .any (fun w args => (Rows.framePartsSpec.pre enc Tryz.prog Tryz.f4 [] false w args ∧ laidMetH Tryz.prog laidL w) ∧ sizedMet enc Tryz.prog Tryz.f4 (OpenSpec.ofChange Rows.framePartsSpec) false w args)
      (Rows.framePartsSpec.post enc Tryz.prog Tryz.f4 false true false false) := by
  refine returnsInHanded_of_change_and (C := Tryz.checked) (X := fun w _ => laidMetH Tryz.prog laidL w) (fun _ _ _ hh h => h.of_heap hh) own started (by kernel_rfl) Tryz.func4
    (ChangeSpec.witness_shaped (enc := enc) (C := Tryz.checked) (os := os) (X := fun w _ => laidMetH Tryz.prog laidL w) false (World.doorLaid Tryz.prog 400 os) #[.string ⟨#[]⟩] 8 rfl (World.shaped_of_RefB (by kernel_rfl) (by kernel_rfl)) (by kernel_rfl) (by kernel_rfl) (by kernel_rfl) (door_met os _)) ?_
  intro W base args ds gs before hval0 hW _ _ hL _
  have hval : ∀ (j : Nat) t v, Tryz.f4.params[j]? = some t → args[j]? = some v → Value.okWide Tryz.prog W .any base t v := hval0
  have hW' := hW
  obtain ⟨p, q, hA0, hV, rfl, hfz, hnd⟩ := hW
  have hA : DataW.TrodAll enc Tryz.prog W 0 (fun _ => true) true Tryz.f4.params.toList args.toList ds p := hA0
  rw [Tryz.params4] at hA hval
  obtain ⟨v0, vs0, d0, ds0, p0, q0, hargs, rfl, rfl, h0, r0⟩ := trodAll_cons hA
  obtain ⟨rfl, rfl, rfl⟩ := trodAll_nil r0
  obtain rfl : args = #[v0] := by cases args; simp_all
  obtain ⟨rfl, rfl⟩ := trodVars_none hV
  obtain ⟨a0, rfl, rfl, rfl, w0⟩ := Go.ChangeMaps.open_string Tryz.underlying9 (hval 0 9 v0 rfl rfl) h0
  clear hA0 hval0
  simp only [List.append_nil] at hW'
  refine (walk a0 w0 W (Header.tabs_of hL)).mono fun e W' ⟨he, hg⟩ => ?_
  subst he
  exact ⟨_, rfl, _, _, _, _, _, [], hW', (trodAll_cons_mk (shut_bool Tryz.underlying4 _) trodAll_mk0), (trodAll_cons_mk (Go.ChangeMaps.shut_string Tryz.underlying9 w0) trodAll_mk0), rfl, hg.frame _, fun h => by cases h⟩

set_option maxRecDepth 100000 in
theorem over : Rows.framePartsRow.holds Tryz.pinned (OpenSpec.ofChange Rows.framePartsSpec) :=
  OpenClaim.holds_of_wide 4 Tryz.f4 rfl rfl rfl rfl rfl rfl rfl ⟨rfl, rfl, rfl, rfl, rfl⟩ rfl rfl rfl rfl rfl (by kernel_rfl) Tryz.func4 (by kernel_rfl)
    (of_decide_eq_true (by kernel_rfl)) (by unfold Func.isWrapper; first | (rw [if_pos (by decide +kernel)]; kernel_rfl) | (rw [if_neg (by decide +kernel)]; exact ⟨rfl, rfl⟩))
    (fun os started H enc _ => lifted os started H enc)

set_option maxRecDepth 100000 in
theorem proved : Rows.FramePartsCardSaid :=
  Claim7.holds_tied_plain_at .later [] [.data, .data] true Rows.framePartsCard.stood.harness false
    over (fun _ h => by cases h) (by kernel_rfl) (fun _ h => by cases h) frameParts_row_tie rfl ⟨rfl, rfl⟩ (by kernel_rfl) rfl
    (fun f fn hf hfn => by
      obtain rfl : f = 4 := Option.some.inj ((show Tryz.prog.funcNamed "claviger/clavigerlaw34.FrameParts" = some 4 by kernel_rfl).symm.trans hf) |>.symm
      obtain rfl : fn = Tryz.f4 := (Option.some.inj (Tryz.func4.symm.trans hfn)).symm
      exact ⟨by kernel_rfl, fun j t ht => by
        rw [Tryz.params4] at ht
        have hm : t ∈ [9] := by simpa using Array.mem_of_getElem? ht
        have hall : ([9].all fun u => !Tryz.prog.wantsStandIn u) = true := by kernel_rfl
        exact (show Tryz.prog.wantsStandIn t = false by simpa using List.all_eq_true.1 hall t hm)⟩)
    (by kernel_rfl)

end Go.Proofs.YtapjmbjoklppnaaGreatDoor.frameParts
