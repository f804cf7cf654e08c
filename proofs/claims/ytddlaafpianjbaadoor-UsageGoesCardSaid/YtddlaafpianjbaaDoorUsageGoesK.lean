/- The law UsageGoes: each that a header says may be done, no other one; what may leave an untrusted place may leave a trusted one; no conditions. -/
import Derived.Test.YtddlaafpianjbaaDoorRows
import Derived.WalkKit
import Derived.ProofKit
import Derived.OpenShut
import Derived.Lib.Hide
import Derived.Test.YtddlaafpianjbaaDoorUs27
import Derived.Test.YtddlaafpianjbaaDoorUs19
import Derived.Test.YtddlaafpianjbaaDoorCards
import Derived.Test.YtddlaafpianjbaaDoorTie
import Derived.LaidMore
import Derived.SevenTiedAt
import Derived.Stop.Joined
namespace Go.Proofs.YtddlaafpianjbaaDoor.usageGoes
open Go.ChangeShapes Go.WideShapes Go.ChangeAt Go.RowKit
open Att Us

theorem memB_T' {s : ByteArray} {l : List ByteArray} (h : s ∈ l) : memB s l = true := memB_T h
set_option maxRecDepth 100000 in
set_option maxHeartbeats 8000000 in
theorem core_b (w : World) (K : Int) (k : ByteArray) (A : Option Addr) (n q : Nat) (L : List A2) (u m v e : ByteArray) (hx : AttsS w (.slice A n q) L) (c0 : RdA 5 L (fun x => #[rv K k u m v e x]) (.bool true)) (F : List ByteArray) (_hF : F = ops.filter (mayB u m)) (c1 : MkOf 8 Table.Tabs u m v e F) (c3 : MkS 10 #[] ops) (qE : Bool) (d1 : RdA 16 L (fun x => #[rv K k u m v e x, .bool false]) (.int .i64 (if qE then 0 else 14))) (d2 : qE = true → RdA 16 L (fun x => #[rv K k u m v e x, .bool true]) (.int .i64 0)) (hT : Table.Tabs w) (hb : bareB u m v e = true) :
    Calls Tryd.prog 4 #[.agg #[.int .i64 K, .string k, .slice A n q, .string u, .string m, .string v, .string e]] w fun x w' => x = .returned (.bool true) ∧ Since w w' := by
  obtain ⟨z1, z2, z3, z4⟩ := bare_T hb
  have hm0 : ops.length = 8 := rfl
  have HF9 : ∀ op ∈ ops, mayE u m v e op = 0 := fun op ho => by
    unfold mayE
    rw [memB_T' ho, hb]
    rfl
  clear hb
  have hp := Lib.hid (tx_new (K := K) (k := k) (u := u) (m := m) (v := v) (e := e) hT hx)
  have c9 := awake_k
  obtain ⟨_, m0, m1, m2, m3, m4, m5, m6⟩ := tx7 hp
  clear hx hT
  go_enter Tryd.func4, Tryd.ntmps4
  go_wp2_with fail
  clear m0 m1 m2 m3 m4 m5 m6
  refine (c0.calls0 hp.out.atts) ?_
  intro w1 h1
  replace hp := txstep (by first | exact h1 | exact (Since.alloc (Since.refl _) _).step h1) hp
  clear h1
  obtain ⟨_, m0, m1, m2, m3, m4, m5, m6⟩ := tx7 hp
  go_wp2_with fail
  clear m0 m1 m2 m3 m4 m5 m6
  refine (c1 _ hp.out.hb.tabs).mono ?_
  rintro r w2 ⟨V1, rfl, hv1, h2⟩
  replace hp := txstep h2 hp
  have ho1 := Lib.hid hv1
  clear h2 hv1
  go_wp2_with fail
  refine (c3 _).mono ?_
  rintro r w3 ⟨V3, rfl, hv3, h3⟩
  replace hp := txstep h3 hp
  replace ho1 := Lib.hid (SlR.since ho1.out h3 : StrsS w3 V1 F)
  clear h3
  obtain ⟨b3, o3, d3, rfl, -, -, g2, g3⟩ := StrsS.form hv3 (by rw [hm0]; omega)
  rw [hm0] at g3 ⊢
  clear hv3
  have HC := Lib.hid g3
  have HF := Lib.hid HF9
  clear g3 HF9
  go_wp2_with fail
  go_loopw [16] (fun i wr => ∃ j : Nat, j ≤ 8 ∧ i = .int .i64 (j : Int) ∧ Hid (Since w3 wr)) (fun i _ => 8 - (intOf i).toNat)
  case atStart => exact ⟨0, by omega, rfl, Lib.hid (Since.refl _)⟩
  case round =>
    obtain ⟨j, hj, rfl, HI⟩ := hrel
    have hq := txstep HI.out hp
    have ho := Lib.hid (SlR.since ho1.out HI.out : StrsS wr V1 F)
    by_cases hlt : j < 8
    · obtain ⟨op, hop⟩ : ∃ op, op = ops.getD j ⟨#[]⟩ := ⟨_, rfl⟩
      have hmem : op ∈ ops := by
        rw [hop, List.getD_eq_getElem?_getD, List.getElem?_eq_getElem (by rw [hm0]; exact hlt), Option.getD_some]
        exact List.getElem_mem _
      have mc : wr.cell? ⟨b3, o3 + j, none⟩ = some (.string op) := by
        rw [hop]
        exact (Below.cell HI.out (p := ⟨b3, o3 + j, none⟩) g2).trans (HC.out j hlt)
      have c5 := may_rd K k u m v e L op (of_k u m v e)
      rw [HF.out op hmem] at c5
      clear hop hmem
      obtain ⟨_, m0, m1, m2, m3, m4, m5, m6⟩ := tx7 hq
      go_wp2_with fail
      clear m0 m1 m2 m3 m4 m5 m6
      refine c5.calls0 hq.out.hb.tabs hq.out.atts ?_
      intro w5 h5
      replace HI := Lib.hid (HI.out.step h5)
      clear h5 ho hq
      go_wp2_with fail
      go_roundw
      case rel => exact ⟨j + 1, by omega, by go_num, HI⟩
      case measure => simp [intOf]; omega
    · obtain rfl : j = 8 := by omega
      have hp := hq
      clear hq
      obtain ⟨_, m0, m1, m2, m3, m4, m5, m6⟩ := tx7 hp
      go_wp2_with fail
      clear m0 m1 m2 m3 m4 m5 m6
      cases qE
      · refine (d1.calls0 hp.out.atts) ?_
        intro w4 h4
        replace hp := txstep (by first | exact h4 | exact (Since.alloc (Since.refl _) _).step h4) hp
        clear h4
        obtain ⟨_, m0, m1, m2, m3, m4, m5, m6⟩ := tx7 hp
        go_wp2_with fail
        clear m0 m1 m2 m3 m4 m5 m6
        refine (c9.calls0 hp.out.hb.tabs) ?_
        intro w6 h6
        replace hp := txstep (by first | exact h6 | exact (Since.alloc (Since.refl _) _).step h6) hp
        clear h6
        go_wp2_with fail
        go_ret
        exact ⟨rfl, hp.out.hb.since⟩
      · refine (d1.calls0 hp.out.atts) ?_
        intro w4 h4
        replace hp := txstep (by first | exact h4 | exact (Since.alloc (Since.refl _) _).step h4) hp
        clear h4
        obtain ⟨_, m0, m1, m2, m3, m4, m5, m6⟩ := tx7 hp
        go_wp2_with fail
        clear m0 m1 m2 m3 m4 m5 m6
        refine ((d2 trivial).calls0 hp.out.atts) ?_
        intro w5 h5
        replace hp := txstep (by first | exact h5 | exact (Since.alloc (Since.refl _) _).step h5) hp
        clear h5
        go_wp2_with fail
        refine (c9.calls0 hp.out.hb.tabs) ?_
        intro w6 h6
        replace hp := txstep (by first | exact h6 | exact (Since.alloc (Since.refl _) _).step h6) hp
        clear h6
        go_wp2_with fail
        go_ret
        exact ⟨rfl, hp.out.hb.since⟩

set_option maxRecDepth 100000 in
set_option maxHeartbeats 8000000 in
theorem core_1 (w : World) (K : Int) (k : ByteArray) (A : Option Addr) (n q : Nat) (L : List A2) (u m v e : ByteArray) (hx : AttsS w (.slice A n q) L) (c0 : RdA 5 L (fun x => #[rv K k u m v e x]) (.bool true)) (F : List ByteArray) (hF : F = ops.filter (mayB u m)) (c1 : MkOf 8 Table.Tabs u m v e F) (c3 : MkS 10 #[] ops) (qE : Bool) (d1 : RdA 16 L (fun x => #[rv K k u m v e x, .bool false]) (.int .i64 (if qE then 0 else 14))) (d2 : qE = true → RdA 16 L (fun x => #[rv K k u m v e x, .bool true]) (.int .i64 0)) (hT : Table.Tabs w) (hb : bareB u m v e = false) (z1 : ¬ u.toList = []) :
    Calls Tryd.prog 4 #[.agg #[.int .i64 K, .string k, .slice A n q, .string u, .string m, .string v, .string e]] w fun x w' => x = .returned (.bool true) ∧ Since w w' := by
  have hm0 : ops.length = 8 := rfl
  have HF9 : ∀ op ∈ ops, mayE u m v e op = if memB op F then 0 else 14 := fun op ho => by
    unfold mayE
    rw [memB_T' ho, hb, ← hF]
    rfl
  clear hb
  have hp := Lib.hid (tx_new (K := K) (k := k) (u := u) (m := m) (v := v) (e := e) hT hx)
  have c9 := awake_k
  obtain ⟨_, m0, m1, m2, m3, m4, m5, m6⟩ := tx7 hp
  clear hx hT
  go_enter Tryd.func4, Tryd.ntmps4
  go_wp2_with fail
  clear m0 m1 m2 m3 m4 m5 m6
  refine (c0.calls0 hp.out.atts) ?_
  intro w1 h1
  replace hp := txstep (by first | exact h1 | exact (Since.alloc (Since.refl _) _).step h1) hp
  clear h1
  obtain ⟨_, m0, m1, m2, m3, m4, m5, m6⟩ := tx7 hp
  go_wp2_with fail
  clear m0 m1 m2 m3 m4 m5 m6
  refine (c1 _ hp.out.hb.tabs).mono ?_
  rintro r w2 ⟨V1, rfl, hv1, h2⟩
  replace hp := txstep h2 hp
  have ho1 := Lib.hid hv1
  clear h2 hv1
  go_wp2_with fail
  refine (c3 _).mono ?_
  rintro r w3 ⟨V3, rfl, hv3, h3⟩
  replace hp := txstep h3 hp
  replace ho1 := Lib.hid (SlR.since ho1.out h3 : StrsS w3 V1 F)
  clear h3
  obtain ⟨b3, o3, d3, rfl, -, -, g2, g3⟩ := StrsS.form hv3 (by rw [hm0]; omega)
  rw [hm0] at g3 ⊢
  clear hv3
  have HC := Lib.hid g3
  have HF := Lib.hid HF9
  clear g3 HF9
  go_wp2_with fail
  go_loopw [16] (fun i wr => ∃ j : Nat, j ≤ 8 ∧ i = .int .i64 (j : Int) ∧ Hid (Since w3 wr)) (fun i _ => 8 - (intOf i).toNat)
  case atStart => exact ⟨0, by omega, rfl, Lib.hid (Since.refl _)⟩
  case round =>
    obtain ⟨j, hj, rfl, HI⟩ := hrel
    have hq := txstep HI.out hp
    have ho := Lib.hid (SlR.since ho1.out HI.out : StrsS wr V1 F)
    by_cases hlt : j < 8
    · obtain ⟨op, hop⟩ : ∃ op, op = ops.getD j ⟨#[]⟩ := ⟨_, rfl⟩
      have hmem : op ∈ ops := by
        rw [hop, List.getD_eq_getElem?_getD, List.getElem?_eq_getElem (by rw [hm0]; exact hlt), Option.getD_some]
        exact List.getElem_mem _
      have mc : wr.cell? ⟨b3, o3 + j, none⟩ = some (.string op) := by
        rw [hop]
        exact (Below.cell HI.out (p := ⟨b3, o3 + j, none⟩) g2).trans (HC.out j hlt)
      have c5 := may_rd K k u m v e L op (of_k u m v e)
      rw [HF.out op hmem] at c5
      clear hop hmem
      obtain ⟨_, m0, m1, m2, m3, m4, m5, m6⟩ := tx7 hq
      go_wp2_with fail
      clear m0 m1 m2 m3 m4 m5 m6
      obtain ⟨B, hB⟩ : ∃ B, B = memB op F := ⟨_, rfl⟩
      have c4 := con_rd op F
      rw [← hB] at c4 c5
      clear hB
      refine RdC.calls c4 ho.out ?_
      obtain ⟨_, m0, m1, m2, m3, m4, m5, m6⟩ := tx7 hq
      cases B
      · go_wp2_with fail
        clear m0 m1 m2 m3 m4 m5 m6
        refine c5.calls0 hq.out.hb.tabs hq.out.atts ?_
        intro w5 h5
        replace HI := Lib.hid (HI.out.step h5)
        clear h5 ho hq
        go_wp2_with fail
        go_roundw
        case rel => exact ⟨j + 1, by omega, by go_num, HI⟩
        case measure => simp [intOf]; omega
      · go_wp2_with fail
        clear m0 m1 m2 m3 m4 m5 m6
        refine c5.calls0 hq.out.hb.tabs hq.out.atts ?_
        intro w5 h5
        replace HI := Lib.hid (HI.out.step h5)
        clear h5 ho hq
        go_wp2_with fail
        go_roundw
        case rel => exact ⟨j + 1, by omega, by go_num, HI⟩
        case measure => simp [intOf]; omega
    · obtain rfl : j = 8 := by omega
      have hp := hq
      clear hq
      obtain ⟨_, m0, m1, m2, m3, m4, m5, m6⟩ := tx7 hp
      go_wp2_with fail
      clear m0 m1 m2 m3 m4 m5 m6
      cases qE
      · refine (d1.calls0 hp.out.atts) ?_
        intro w4 h4
        replace hp := txstep (by first | exact h4 | exact (Since.alloc (Since.refl _) _).step h4) hp
        clear h4
        obtain ⟨_, m0, m1, m2, m3, m4, m5, m6⟩ := tx7 hp
        go_wp2_with fail
        clear m0 m1 m2 m3 m4 m5 m6
        refine (c9.calls0 hp.out.hb.tabs) ?_
        intro w6 h6
        replace hp := txstep (by first | exact h6 | exact (Since.alloc (Since.refl _) _).step h6) hp
        clear h6
        go_wp2_with fail
        go_ret
        exact ⟨rfl, hp.out.hb.since⟩
      · refine (d1.calls0 hp.out.atts) ?_
        intro w4 h4
        replace hp := txstep (by first | exact h4 | exact (Since.alloc (Since.refl _) _).step h4) hp
        clear h4
        obtain ⟨_, m0, m1, m2, m3, m4, m5, m6⟩ := tx7 hp
        go_wp2_with fail
        clear m0 m1 m2 m3 m4 m5 m6
        refine ((d2 trivial).calls0 hp.out.atts) ?_
        intro w5 h5
        replace hp := txstep (by first | exact h5 | exact (Since.alloc (Since.refl _) _).step h5) hp
        clear h5
        go_wp2_with fail
        refine (c9.calls0 hp.out.hb.tabs) ?_
        intro w6 h6
        replace hp := txstep (by first | exact h6 | exact (Since.alloc (Since.refl _) _).step h6) hp
        clear h6
        go_wp2_with fail
        go_ret
        exact ⟨rfl, hp.out.hb.since⟩

set_option maxRecDepth 100000 in
set_option maxHeartbeats 8000000 in
theorem core_2 (w : World) (K : Int) (k : ByteArray) (A : Option Addr) (n q : Nat) (L : List A2) (u m v e : ByteArray) (hx : AttsS w (.slice A n q) L) (c0 : RdA 5 L (fun x => #[rv K k u m v e x]) (.bool true)) (F : List ByteArray) (hF : F = ops.filter (mayB u m)) (c1 : MkOf 8 Table.Tabs u m v e F) (c3 : MkS 10 #[] ops) (qE : Bool) (d1 : RdA 16 L (fun x => #[rv K k u m v e x, .bool false]) (.int .i64 (if qE then 0 else 14))) (d2 : qE = true → RdA 16 L (fun x => #[rv K k u m v e x, .bool true]) (.int .i64 0)) (hT : Table.Tabs w) (hb : bareB u m v e = false) (z1 : u.toList = []) (z2 : ¬ m.toList = []) :
    Calls Tryd.prog 4 #[.agg #[.int .i64 K, .string k, .slice A n q, .string u, .string m, .string v, .string e]] w fun x w' => x = .returned (.bool true) ∧ Since w w' := by
  have hm0 : ops.length = 8 := rfl
  have HF9 : ∀ op ∈ ops, mayE u m v e op = if memB op F then 0 else 14 := fun op ho => by
    unfold mayE
    rw [memB_T' ho, hb, ← hF]
    rfl
  clear hb
  have hp := Lib.hid (tx_new (K := K) (k := k) (u := u) (m := m) (v := v) (e := e) hT hx)
  have c9 := awake_k
  obtain ⟨_, m0, m1, m2, m3, m4, m5, m6⟩ := tx7 hp
  clear hx hT
  go_enter Tryd.func4, Tryd.ntmps4
  go_wp2_with fail
  clear m0 m1 m2 m3 m4 m5 m6
  refine (c0.calls0 hp.out.atts) ?_
  intro w1 h1
  replace hp := txstep (by first | exact h1 | exact (Since.alloc (Since.refl _) _).step h1) hp
  clear h1
  obtain ⟨_, m0, m1, m2, m3, m4, m5, m6⟩ := tx7 hp
  go_wp2_with fail
  clear m0 m1 m2 m3 m4 m5 m6
  refine (c1 _ hp.out.hb.tabs).mono ?_
  rintro r w2 ⟨V1, rfl, hv1, h2⟩
  replace hp := txstep h2 hp
  have ho1 := Lib.hid hv1
  clear h2 hv1
  go_wp2_with fail
  refine (c3 _).mono ?_
  rintro r w3 ⟨V3, rfl, hv3, h3⟩
  replace hp := txstep h3 hp
  replace ho1 := Lib.hid (SlR.since ho1.out h3 : StrsS w3 V1 F)
  clear h3
  obtain ⟨b3, o3, d3, rfl, -, -, g2, g3⟩ := StrsS.form hv3 (by rw [hm0]; omega)
  rw [hm0] at g3 ⊢
  clear hv3
  have HC := Lib.hid g3
  have HF := Lib.hid HF9
  clear g3 HF9
  go_wp2_with fail
  go_loopw [16] (fun i wr => ∃ j : Nat, j ≤ 8 ∧ i = .int .i64 (j : Int) ∧ Hid (Since w3 wr)) (fun i _ => 8 - (intOf i).toNat)
  case atStart => exact ⟨0, by omega, rfl, Lib.hid (Since.refl _)⟩
  case round =>
    obtain ⟨j, hj, rfl, HI⟩ := hrel
    have hq := txstep HI.out hp
    have ho := Lib.hid (SlR.since ho1.out HI.out : StrsS wr V1 F)
    by_cases hlt : j < 8
    · obtain ⟨op, hop⟩ : ∃ op, op = ops.getD j ⟨#[]⟩ := ⟨_, rfl⟩
      have hmem : op ∈ ops := by
        rw [hop, List.getD_eq_getElem?_getD, List.getElem?_eq_getElem (by rw [hm0]; exact hlt), Option.getD_some]
        exact List.getElem_mem _
      have mc : wr.cell? ⟨b3, o3 + j, none⟩ = some (.string op) := by
        rw [hop]
        exact (Below.cell HI.out (p := ⟨b3, o3 + j, none⟩) g2).trans (HC.out j hlt)
      have c5 := may_rd K k u m v e L op (of_k u m v e)
      rw [HF.out op hmem] at c5
      clear hop hmem
      obtain ⟨_, m0, m1, m2, m3, m4, m5, m6⟩ := tx7 hq
      go_wp2_with fail
      clear m0 m1 m2 m3 m4 m5 m6
      obtain ⟨B, hB⟩ : ∃ B, B = memB op F := ⟨_, rfl⟩
      have c4 := con_rd op F
      rw [← hB] at c4 c5
      clear hB
      refine RdC.calls c4 ho.out ?_
      obtain ⟨_, m0, m1, m2, m3, m4, m5, m6⟩ := tx7 hq
      cases B
      · go_wp2_with fail
        clear m0 m1 m2 m3 m4 m5 m6
        refine c5.calls0 hq.out.hb.tabs hq.out.atts ?_
        intro w5 h5
        replace HI := Lib.hid (HI.out.step h5)
        clear h5 ho hq
        go_wp2_with fail
        go_roundw
        case rel => exact ⟨j + 1, by omega, by go_num, HI⟩
        case measure => simp [intOf]; omega
      · go_wp2_with fail
        clear m0 m1 m2 m3 m4 m5 m6
        refine c5.calls0 hq.out.hb.tabs hq.out.atts ?_
        intro w5 h5
        replace HI := Lib.hid (HI.out.step h5)
        clear h5 ho hq
        go_wp2_with fail
        go_roundw
        case rel => exact ⟨j + 1, by omega, by go_num, HI⟩
        case measure => simp [intOf]; omega
    · obtain rfl : j = 8 := by omega
      have hp := hq
      clear hq
      obtain ⟨_, m0, m1, m2, m3, m4, m5, m6⟩ := tx7 hp
      go_wp2_with fail
      clear m0 m1 m2 m3 m4 m5 m6
      cases qE
      · refine (d1.calls0 hp.out.atts) ?_
        intro w4 h4
        replace hp := txstep (by first | exact h4 | exact (Since.alloc (Since.refl _) _).step h4) hp
        clear h4
        obtain ⟨_, m0, m1, m2, m3, m4, m5, m6⟩ := tx7 hp
        go_wp2_with fail
        clear m0 m1 m2 m3 m4 m5 m6
        refine (c9.calls0 hp.out.hb.tabs) ?_
        intro w6 h6
        replace hp := txstep (by first | exact h6 | exact (Since.alloc (Since.refl _) _).step h6) hp
        clear h6
        go_wp2_with fail
        go_ret
        exact ⟨rfl, hp.out.hb.since⟩
      · refine (d1.calls0 hp.out.atts) ?_
        intro w4 h4
        replace hp := txstep (by first | exact h4 | exact (Since.alloc (Since.refl _) _).step h4) hp
        clear h4
        obtain ⟨_, m0, m1, m2, m3, m4, m5, m6⟩ := tx7 hp
        go_wp2_with fail
        clear m0 m1 m2 m3 m4 m5 m6
        refine ((d2 trivial).calls0 hp.out.atts) ?_
        intro w5 h5
        replace hp := txstep (by first | exact h5 | exact (Since.alloc (Since.refl _) _).step h5) hp
        clear h5
        go_wp2_with fail
        refine (c9.calls0 hp.out.hb.tabs) ?_
        intro w6 h6
        replace hp := txstep (by first | exact h6 | exact (Since.alloc (Since.refl _) _).step h6) hp
        clear h6
        go_wp2_with fail
        go_ret
        exact ⟨rfl, hp.out.hb.since⟩

set_option maxRecDepth 100000 in
set_option maxHeartbeats 8000000 in
theorem core_3 (w : World) (K : Int) (k : ByteArray) (A : Option Addr) (n q : Nat) (L : List A2) (u m v e : ByteArray) (hx : AttsS w (.slice A n q) L) (c0 : RdA 5 L (fun x => #[rv K k u m v e x]) (.bool true)) (F : List ByteArray) (hF : F = ops.filter (mayB u m)) (c1 : MkOf 8 Table.Tabs u m v e F) (c3 : MkS 10 #[] ops) (qE : Bool) (d1 : RdA 16 L (fun x => #[rv K k u m v e x, .bool false]) (.int .i64 (if qE then 0 else 14))) (d2 : qE = true → RdA 16 L (fun x => #[rv K k u m v e x, .bool true]) (.int .i64 0)) (hT : Table.Tabs w) (hb : bareB u m v e = false) (z1 : u.toList = []) (z2 : m.toList = []) (z3 : ¬ v.toList = []) :
    Calls Tryd.prog 4 #[.agg #[.int .i64 K, .string k, .slice A n q, .string u, .string m, .string v, .string e]] w fun x w' => x = .returned (.bool true) ∧ Since w w' := by
  have hm0 : ops.length = 8 := rfl
  have HF9 : ∀ op ∈ ops, mayE u m v e op = if memB op F then 0 else 14 := fun op ho => by
    unfold mayE
    rw [memB_T' ho, hb, ← hF]
    rfl
  clear hb
  have hp := Lib.hid (tx_new (K := K) (k := k) (u := u) (m := m) (v := v) (e := e) hT hx)
  have c9 := awake_k
  obtain ⟨_, m0, m1, m2, m3, m4, m5, m6⟩ := tx7 hp
  clear hx hT
  go_enter Tryd.func4, Tryd.ntmps4
  go_wp2_with fail
  clear m0 m1 m2 m3 m4 m5 m6
  refine (c0.calls0 hp.out.atts) ?_
  intro w1 h1
  replace hp := txstep (by first | exact h1 | exact (Since.alloc (Since.refl _) _).step h1) hp
  clear h1
  obtain ⟨_, m0, m1, m2, m3, m4, m5, m6⟩ := tx7 hp
  go_wp2_with fail
  clear m0 m1 m2 m3 m4 m5 m6
  refine (c1 _ hp.out.hb.tabs).mono ?_
  rintro r w2 ⟨V1, rfl, hv1, h2⟩
  replace hp := txstep h2 hp
  have ho1 := Lib.hid hv1
  clear h2 hv1
  go_wp2_with fail
  refine (c3 _).mono ?_
  rintro r w3 ⟨V3, rfl, hv3, h3⟩
  replace hp := txstep h3 hp
  replace ho1 := Lib.hid (SlR.since ho1.out h3 : StrsS w3 V1 F)
  clear h3
  obtain ⟨b3, o3, d3, rfl, -, -, g2, g3⟩ := StrsS.form hv3 (by rw [hm0]; omega)
  rw [hm0] at g3 ⊢
  clear hv3
  have HC := Lib.hid g3
  have HF := Lib.hid HF9
  clear g3 HF9
  go_wp2_with fail
  go_loopw [16] (fun i wr => ∃ j : Nat, j ≤ 8 ∧ i = .int .i64 (j : Int) ∧ Hid (Since w3 wr)) (fun i _ => 8 - (intOf i).toNat)
  case atStart => exact ⟨0, by omega, rfl, Lib.hid (Since.refl _)⟩
  case round =>
    obtain ⟨j, hj, rfl, HI⟩ := hrel
    have hq := txstep HI.out hp
    have ho := Lib.hid (SlR.since ho1.out HI.out : StrsS wr V1 F)
    by_cases hlt : j < 8
    · obtain ⟨op, hop⟩ : ∃ op, op = ops.getD j ⟨#[]⟩ := ⟨_, rfl⟩
      have hmem : op ∈ ops := by
        rw [hop, List.getD_eq_getElem?_getD, List.getElem?_eq_getElem (by rw [hm0]; exact hlt), Option.getD_some]
        exact List.getElem_mem _
      have mc : wr.cell? ⟨b3, o3 + j, none⟩ = some (.string op) := by
        rw [hop]
        exact (Below.cell HI.out (p := ⟨b3, o3 + j, none⟩) g2).trans (HC.out j hlt)
      have c5 := may_rd K k u m v e L op (of_k u m v e)
      rw [HF.out op hmem] at c5
      clear hop hmem
      obtain ⟨_, m0, m1, m2, m3, m4, m5, m6⟩ := tx7 hq
      go_wp2_with fail
      clear m0 m1 m2 m3 m4 m5 m6
      obtain ⟨B, hB⟩ : ∃ B, B = memB op F := ⟨_, rfl⟩
      have c4 := con_rd op F
      rw [← hB] at c4 c5
      clear hB
      refine RdC.calls c4 ho.out ?_
      obtain ⟨_, m0, m1, m2, m3, m4, m5, m6⟩ := tx7 hq
      cases B
      · go_wp2_with fail
        clear m0 m1 m2 m3 m4 m5 m6
        refine c5.calls0 hq.out.hb.tabs hq.out.atts ?_
        intro w5 h5
        replace HI := Lib.hid (HI.out.step h5)
        clear h5 ho hq
        go_wp2_with fail
        go_roundw
        case rel => exact ⟨j + 1, by omega, by go_num, HI⟩
        case measure => simp [intOf]; omega
      · go_wp2_with fail
        clear m0 m1 m2 m3 m4 m5 m6
        refine c5.calls0 hq.out.hb.tabs hq.out.atts ?_
        intro w5 h5
        replace HI := Lib.hid (HI.out.step h5)
        clear h5 ho hq
        go_wp2_with fail
        go_roundw
        case rel => exact ⟨j + 1, by omega, by go_num, HI⟩
        case measure => simp [intOf]; omega
    · obtain rfl : j = 8 := by omega
      have hp := hq
      clear hq
      obtain ⟨_, m0, m1, m2, m3, m4, m5, m6⟩ := tx7 hp
      go_wp2_with fail
      clear m0 m1 m2 m3 m4 m5 m6
      cases qE
      · refine (d1.calls0 hp.out.atts) ?_
        intro w4 h4
        replace hp := txstep (by first | exact h4 | exact (Since.alloc (Since.refl _) _).step h4) hp
        clear h4
        obtain ⟨_, m0, m1, m2, m3, m4, m5, m6⟩ := tx7 hp
        go_wp2_with fail
        clear m0 m1 m2 m3 m4 m5 m6
        refine (c9.calls0 hp.out.hb.tabs) ?_
        intro w6 h6
        replace hp := txstep (by first | exact h6 | exact (Since.alloc (Since.refl _) _).step h6) hp
        clear h6
        go_wp2_with fail
        go_ret
        exact ⟨rfl, hp.out.hb.since⟩
      · refine (d1.calls0 hp.out.atts) ?_
        intro w4 h4
        replace hp := txstep (by first | exact h4 | exact (Since.alloc (Since.refl _) _).step h4) hp
        clear h4
        obtain ⟨_, m0, m1, m2, m3, m4, m5, m6⟩ := tx7 hp
        go_wp2_with fail
        clear m0 m1 m2 m3 m4 m5 m6
        refine ((d2 trivial).calls0 hp.out.atts) ?_
        intro w5 h5
        replace hp := txstep (by first | exact h5 | exact (Since.alloc (Since.refl _) _).step h5) hp
        clear h5
        go_wp2_with fail
        refine (c9.calls0 hp.out.hb.tabs) ?_
        intro w6 h6
        replace hp := txstep (by first | exact h6 | exact (Since.alloc (Since.refl _) _).step h6) hp
        clear h6
        go_wp2_with fail
        go_ret
        exact ⟨rfl, hp.out.hb.since⟩

set_option maxRecDepth 100000 in
set_option maxHeartbeats 8000000 in
theorem core_4 (w : World) (K : Int) (k : ByteArray) (A : Option Addr) (n q : Nat) (L : List A2) (u m v e : ByteArray) (hx : AttsS w (.slice A n q) L) (c0 : RdA 5 L (fun x => #[rv K k u m v e x]) (.bool true)) (F : List ByteArray) (hF : F = ops.filter (mayB u m)) (c1 : MkOf 8 Table.Tabs u m v e F) (c3 : MkS 10 #[] ops) (qE : Bool) (d1 : RdA 16 L (fun x => #[rv K k u m v e x, .bool false]) (.int .i64 (if qE then 0 else 14))) (d2 : qE = true → RdA 16 L (fun x => #[rv K k u m v e x, .bool true]) (.int .i64 0)) (hT : Table.Tabs w) (hb : bareB u m v e = false) (z1 : u.toList = []) (z2 : m.toList = []) (z3 : v.toList = []) (z4 : ¬ e.toList = []) :
    Calls Tryd.prog 4 #[.agg #[.int .i64 K, .string k, .slice A n q, .string u, .string m, .string v, .string e]] w fun x w' => x = .returned (.bool true) ∧ Since w w' := by
  have hm0 : ops.length = 8 := rfl
  have HF9 : ∀ op ∈ ops, mayE u m v e op = if memB op F then 0 else 14 := fun op ho => by
    unfold mayE
    rw [memB_T' ho, hb, ← hF]
    rfl
  clear hb
  have hp := Lib.hid (tx_new (K := K) (k := k) (u := u) (m := m) (v := v) (e := e) hT hx)
  have c9 := awake_k
  obtain ⟨_, m0, m1, m2, m3, m4, m5, m6⟩ := tx7 hp
  clear hx hT
  go_enter Tryd.func4, Tryd.ntmps4
  go_wp2_with fail
  clear m0 m1 m2 m3 m4 m5 m6
  refine (c0.calls0 hp.out.atts) ?_
  intro w1 h1
  replace hp := txstep (by first | exact h1 | exact (Since.alloc (Since.refl _) _).step h1) hp
  clear h1
  obtain ⟨_, m0, m1, m2, m3, m4, m5, m6⟩ := tx7 hp
  go_wp2_with fail
  clear m0 m1 m2 m3 m4 m5 m6
  refine (c1 _ hp.out.hb.tabs).mono ?_
  rintro r w2 ⟨V1, rfl, hv1, h2⟩
  replace hp := txstep h2 hp
  have ho1 := Lib.hid hv1
  clear h2 hv1
  go_wp2_with fail
  refine (c3 _).mono ?_
  rintro r w3 ⟨V3, rfl, hv3, h3⟩
  replace hp := txstep h3 hp
  replace ho1 := Lib.hid (SlR.since ho1.out h3 : StrsS w3 V1 F)
  clear h3
  obtain ⟨b3, o3, d3, rfl, -, -, g2, g3⟩ := StrsS.form hv3 (by rw [hm0]; omega)
  rw [hm0] at g3 ⊢
  clear hv3
  have HC := Lib.hid g3
  have HF := Lib.hid HF9
  clear g3 HF9
  go_wp2_with fail
  go_loopw [16] (fun i wr => ∃ j : Nat, j ≤ 8 ∧ i = .int .i64 (j : Int) ∧ Hid (Since w3 wr)) (fun i _ => 8 - (intOf i).toNat)
  case atStart => exact ⟨0, by omega, rfl, Lib.hid (Since.refl _)⟩
  case round =>
    obtain ⟨j, hj, rfl, HI⟩ := hrel
    have hq := txstep HI.out hp
    have ho := Lib.hid (SlR.since ho1.out HI.out : StrsS wr V1 F)
    by_cases hlt : j < 8
    · obtain ⟨op, hop⟩ : ∃ op, op = ops.getD j ⟨#[]⟩ := ⟨_, rfl⟩
      have hmem : op ∈ ops := by
        rw [hop, List.getD_eq_getElem?_getD, List.getElem?_eq_getElem (by rw [hm0]; exact hlt), Option.getD_some]
        exact List.getElem_mem _
      have mc : wr.cell? ⟨b3, o3 + j, none⟩ = some (.string op) := by
        rw [hop]
        exact (Below.cell HI.out (p := ⟨b3, o3 + j, none⟩) g2).trans (HC.out j hlt)
      have c5 := may_rd K k u m v e L op (of_k u m v e)
      rw [HF.out op hmem] at c5
      clear hop hmem
      obtain ⟨_, m0, m1, m2, m3, m4, m5, m6⟩ := tx7 hq
      go_wp2_with fail
      clear m0 m1 m2 m3 m4 m5 m6
      obtain ⟨B, hB⟩ : ∃ B, B = memB op F := ⟨_, rfl⟩
      have c4 := con_rd op F
      rw [← hB] at c4 c5
      clear hB
      refine RdC.calls c4 ho.out ?_
      obtain ⟨_, m0, m1, m2, m3, m4, m5, m6⟩ := tx7 hq
      cases B
      · go_wp2_with fail
        clear m0 m1 m2 m3 m4 m5 m6
        refine c5.calls0 hq.out.hb.tabs hq.out.atts ?_
        intro w5 h5
        replace HI := Lib.hid (HI.out.step h5)
        clear h5 ho hq
        go_wp2_with fail
        go_roundw
        case rel => exact ⟨j + 1, by omega, by go_num, HI⟩
        case measure => simp [intOf]; omega
      · go_wp2_with fail
        clear m0 m1 m2 m3 m4 m5 m6
        refine c5.calls0 hq.out.hb.tabs hq.out.atts ?_
        intro w5 h5
        replace HI := Lib.hid (HI.out.step h5)
        clear h5 ho hq
        go_wp2_with fail
        go_roundw
        case rel => exact ⟨j + 1, by omega, by go_num, HI⟩
        case measure => simp [intOf]; omega
    · obtain rfl : j = 8 := by omega
      have hp := hq
      clear hq
      obtain ⟨_, m0, m1, m2, m3, m4, m5, m6⟩ := tx7 hp
      go_wp2_with fail
      clear m0 m1 m2 m3 m4 m5 m6
      cases qE
      · refine (d1.calls0 hp.out.atts) ?_
        intro w4 h4
        replace hp := txstep (by first | exact h4 | exact (Since.alloc (Since.refl _) _).step h4) hp
        clear h4
        obtain ⟨_, m0, m1, m2, m3, m4, m5, m6⟩ := tx7 hp
        go_wp2_with fail
        clear m0 m1 m2 m3 m4 m5 m6
        refine (c9.calls0 hp.out.hb.tabs) ?_
        intro w6 h6
        replace hp := txstep (by first | exact h6 | exact (Since.alloc (Since.refl _) _).step h6) hp
        clear h6
        go_wp2_with fail
        go_ret
        exact ⟨rfl, hp.out.hb.since⟩
      · refine (d1.calls0 hp.out.atts) ?_
        intro w4 h4
        replace hp := txstep (by first | exact h4 | exact (Since.alloc (Since.refl _) _).step h4) hp
        clear h4
        obtain ⟨_, m0, m1, m2, m3, m4, m5, m6⟩ := tx7 hp
        go_wp2_with fail
        clear m0 m1 m2 m3 m4 m5 m6
        refine ((d2 trivial).calls0 hp.out.atts) ?_
        intro w5 h5
        replace hp := txstep (by first | exact h5 | exact (Since.alloc (Since.refl _) _).step h5) hp
        clear h5
        go_wp2_with fail
        refine (c9.calls0 hp.out.hb.tabs) ?_
        intro w6 h6
        replace hp := txstep (by first | exact h6 | exact (Since.alloc (Since.refl _) _).step h6) hp
        clear h6
        go_wp2_with fail
        go_ret
        exact ⟨rfl, hp.out.hb.since⟩

set_option maxRecDepth 100000 in
set_option maxHeartbeats 4000000 in
theorem big (w : World) (K : Int) (k : ByteArray) (A : Option Addr) (n q : Nat) (L : List A2) (u m v e : ByteArray) (hx : AttsS w (.slice A n q) L) (c0 : RdA 5 L (fun x => #[rv K k u m v e x]) (.bool false)) (hT : Table.Tabs w) :
    Calls Tryd.prog 4 #[.agg #[.int .i64 K, .string k, .slice A n q, .string u, .string m, .string v, .string e]] w fun x w' => x = .returned (.bool true) ∧ Since w w' := by
  have hp := Lib.hid (tx_new (K := K) (k := k) (u := u) (m := m) (v := v) (e := e) hT hx)
  have c9 := awake_k
  obtain ⟨_, m0, m1, m2, m3, m4, m5, m6⟩ := tx7 hp
  clear hx hT
  go_enter Tryd.func4, Tryd.ntmps4
  go_wp2_with fail
  clear m0 m1 m2 m3 m4 m5 m6
  refine (c0.calls0 hp.out.atts) ?_
  intro w1 h1
  replace hp := txstep (by first | exact h1 | exact (Since.alloc (Since.refl _) _).step h1) hp
  clear h1
  go_wp2_with fail
  refine (c9.calls0 hp.out.hb.tabs) ?_
  intro w9 h9
  replace hp := txstep (by first | exact h9 | exact (Since.alloc (Since.refl _) _).step h9) hp
  clear h9
  go_wp2_with fail
  go_ret
  exact ⟨rfl, hp.out.hb.since⟩
theorem lea_way (X : ByteArray) : ∃ qE : Bool, leaE X false = (if qE then 0 else 14) ∧ (qE = true → leaE X true = 0) := by
  unfold leaE
  by_cases h1 : X = ⟨#[78]⟩
  · exact ⟨false, by rw [if_pos h1]; rfl, fun h => by cases h⟩
  · rw [if_neg h1, if_neg h1]
    by_cases h2 : X = ⟨#[69]⟩
    · exact ⟨false, by rw [if_pos h2], fun h => by cases h⟩
    · exact ⟨true, by rw [if_neg h2]; rfl, fun _ => by rw [if_neg h2]⟩
set_option maxRecDepth 100000 in
theorem walk (w : World) (K : Int) (k : ByteArray) (A : Option Addr) (n q : Nat) (L : List A2) (u m v e : ByteArray) (_f1 : (Lit.int .i64 K).wf = true) (_f2 : k.size ≤ maxLen) (hx : AttsS w (.slice A n q) L) (_f3 : n = L.length) (_f4 : ∀ p ∈ L, (Lit.int .i64 p.1).wf = true ∧ p.2.size ≤ maxLen) (_f5 : u.size ≤ maxLen) (_f6 : m.size ≤ maxLen) (_f7 : v.size ≤ maxLen) (_f8 : e.size ≤ maxLen) (hT : Table.Tabs w) :
    Calls Tryd.prog 4 #[.agg #[.int .i64 K, .string k, .slice A n q, .string u, .string m, .string v, .string e]] w fun x w' => x = .returned (.bool true) ∧ Below w.heap.size w w' := by
  have c0 := plain_rd K k u m v e L
  cases hb : plainB k u m v e L with
  | false => rw [hb] at c0; exact big w K k A n q L u m v e hx c0 hT
  | true =>
    rw [hb] at c0
    have d1 := lea_rd K k u m v e L false
    have d2 := lea_rd K k u m v e L true
    obtain ⟨qE, e1, e2⟩ := lea_way (expV u m v e L)
    rw [e1] at d1
    have d3 : qE = true → RdA 16 L (fun x => #[rv K k u m v e x, .bool true]) (.int .i64 0) := fun h => by rw [e2 h] at d2; exact d2
    cases hr : bareB u m v e with
    | true => exact core_b w K k A n q L u m v e hx c0 _ rfl (of_k u m v e) ops_mk qE d1 d3 hT hr
    | false =>
      rcases bare_F hr with h1 | ⟨h1, h2⟩ | ⟨h1, h2, h3⟩ | ⟨h1, h2, h3, h4⟩
      · exact core_1 w K k A n q L u m v e hx c0 _ rfl (of_k u m v e) ops_mk qE d1 d3 hT hr h1
      · exact core_2 w K k A n q L u m v e hx c0 _ rfl (of_k u m v e) ops_mk qE d1 d3 hT hr h1 h2
      · exact core_3 w K k A n q L u m v e hx c0 _ rfl (of_k u m v e) ops_mk qE d1 d3 hT hr h1 h2 h3
      · exact core_4 w K k A n q L u m v e hx c0 _ rfl (of_k u m v e) ops_mk qE d1 d3 hT hr h1 h2 h3 h4

set_option maxRecDepth 100000 in
theorem own : ownKnob Tryd.prog.godebug = none := by kernel_rfl
set_option maxRecDepth 100000 in
theorem laidOut : laidOutB Tryd.prog = true := by kernel_rfl

def laidL {H : Type} : List (String × DataW H) := [("claviger/table.lines", Rows.laid_claviger_table_lines)]
set_option maxRecDepth 100000 in
theorem door_met (os : Os) (args : Array Value) : laidMetH Tryd.prog laidL ((World.doorLaid Tryd.prog 400 os).forCall (fun _ _ => 0) ⟨#[], args, []⟩).memory :=
  laidMetH_of_parts3 (fuel := 8) (laidMet_of_run' 8 (by kernel_rfl) (by kernel_rfl)) (by kernel_rfl) (by kernel_rfl)
set_option maxRecDepth 100000 in
theorem lifted (os : Os) (started : os.Started) (H : Type) (enc : TypeId × Value → H) :
    ReturnsInHanded {} Tryd.checked os 4 .any (fun w args => (Rows.usageGoesSpec.pre enc Tryd.prog Tryd.f4 [] false w args ∧ laidMetH Tryd.prog laidL w) ∧ sizedMet enc Tryd.prog Tryd.f4 (OpenSpec.ofChange Rows.usageGoesSpec) false w args)
      (Rows.usageGoesSpec.post enc Tryd.prog Tryd.f4 false true false false) := by
  refine returnsInHanded_of_change_and (C := Tryd.checked) (X := fun w _ => laidMetH Tryd.prog laidL w) (fun _ _ _ hh h => h.of_heap hh) own started (by kernel_rfl) Tryd.func4
    (ChangeSpec.witness_shaped (enc := enc) (C := Tryd.checked) (os := os) (X := fun w _ => laidMetH Tryd.prog laidL w) false (World.doorLaid Tryd.prog 400 os) #[.agg #[.int .i64 0, .string ⟨#[]⟩, .slice none 0 0, .string ⟨#[]⟩, .string ⟨#[]⟩, .string ⟨#[]⟩, .string ⟨#[]⟩]] 8 rfl (World.shaped_of_RefB (by kernel_rfl) (by kernel_rfl)) (by kernel_rfl) (by kernel_rfl) (by kernel_rfl) (door_met os _)) ?_
  intro W base args ds gs before hval0 hW _ _ hL _
  have hval : ∀ (j : Nat) t v, Tryd.f4.params[j]? = some t → args[j]? = some v → Value.okWide Tryd.prog W .any base t v := hval0
  have hW' := hW
  obtain ⟨p, q, hA0, hV, rfl, hfz, hnd⟩ := hW
  have hA : DataW.TrodAll enc Tryd.prog W 0 (fun _ => true) true Tryd.f4.params.toList args.toList ds p := hA0
  rw [Tryd.params4] at hA hval
  obtain ⟨v0, vs0, d0, ds0, p0, q0, hargs, rfl, rfl, h0, r0⟩ := trodAll_cons hA
  obtain ⟨rfl, rfl, rfl⟩ := trodAll_nil r0
  obtain rfl : args = #[v0] := by cases args; simp_all
  obtain ⟨rfl, rfl⟩ := trodVars_none hV
  have h0k := h0
  have hlt0 : ∀ x ∈ p0, x.block < W.heap.size := fun x hx => by simpa using hW'.lt x (by simp [hx])
  obtain ⟨a0_K, a0_k, a0_A, a0_n, a0_q, a0_L, a0_u, a0_m, a0_v, a0_e, rfl, f0_0, f0_1, f0_2, f0_3, f0_4, f0_5, f0_6, f0_7, f0_8⟩ := Rec.record_arg (hval 0 26 v0 rfl rfl) h0 hlt0
  clear hA0 hval0
  simp only [List.append_nil] at hW'
  refine (walk W a0_K a0_k a0_A a0_n a0_q a0_L a0_u a0_m a0_v a0_e f0_0 f0_1 f0_2 f0_3 f0_4 f0_5 f0_6 f0_7 f0_8 (Table.tabs_of hL)).mono fun e W' ⟨he, hg⟩ => ?_
  subst he
  exact ⟨_, rfl, _, _, _, _, _, [], hW', (trodAll_cons_mk (shut_bool Tryd.underlying4 _) trodAll_mk0), (trodAll_cons_mk (Below.trod laidOut (by kernel_rfl) (of_decide_eq_true (by kernel_rfl)) h0k hg hlt0) trodAll_mk0), rfl, hg.frame _, fun h => by cases h⟩

set_option maxRecDepth 100000 in
theorem over : Rows.usageGoesRow.holds Tryd.pinned (OpenSpec.ofChange Rows.usageGoesSpec) :=
  OpenClaim.holds_of_wide 4 Tryd.f4 rfl rfl rfl rfl rfl rfl rfl ⟨rfl, rfl, rfl, rfl, rfl⟩ rfl rfl rfl rfl rfl (by kernel_rfl) Tryd.func4 (by kernel_rfl)
    (of_decide_eq_true (by kernel_rfl)) (by unfold Func.isWrapper; first | (rw [if_pos (by decide +kernel)]; kernel_rfl) | (rw [if_neg (by decide +kernel)]; exact ⟨rfl, rfl⟩))
    (fun os started H enc _ => lifted os started H enc)

set_option maxRecDepth 100000 in
theorem proved : Rows.UsageGoesCardSaid :=
  Claim7.holds_tied_plain_at .later [] [.data] true Rows.usageGoesCard.stood.harness false
    over (fun _ h => by cases h) (by kernel_rfl) (fun _ h => by cases h) usageGoes_row_tie rfl ⟨rfl, rfl⟩ (by kernel_rfl) rfl
    (fun f fn hf hfn => by
      obtain rfl : f = 4 := Option.some.inj ((show Tryd.prog.funcNamed "claviger/clavigerlaw41.UsageGoes" = some 4 by kernel_rfl).symm.trans hf) |>.symm
      obtain rfl : fn = Tryd.f4 := (Option.some.inj (Tryd.func4.symm.trans hfn)).symm
      exact ⟨by kernel_rfl, fun j t ht => by
        rw [Tryd.params4] at ht
        have hm : t ∈ [26] := by simpa using Array.mem_of_getElem? ht
        have hall : ([26].all fun u => !Tryd.prog.wantsStandIn u) = true := by kernel_rfl
        exact (show Tryd.prog.wantsStandIn t = false by simpa using List.all_eq_true.1 hall t hm)⟩)
    (by kernel_rfl)

end Go.Proofs.YtddlaafpianjbaaDoor.usageGoes
