/- The law KcvBack: what was split is combined as it was, also the other way round; a record's own values are right; no conditions. -/
import Derived.Test.YtgfdomdbjiflmaaDoorRows
import Derived.WalkKit
import Derived.ProofKit
import Derived.OpenShut
import Derived.Lib.Hide
import Derived.Test.YtgfdomdbjiflmaaDoorDj51
import Derived.Test.YtgfdomdbjiflmaaDoorCards
import Derived.Test.YtgfdomdbjiflmaaDoorTie
import Derived.LaidMore
import Derived.SevenTiedAt
import Derived.Stop.Joined
import Derived.Lay
namespace Go.Proofs.YtgfdomdbjiflmaaDoor.kcvBack
open Go.ChangeShapes Go.WideShapes Go.ChangeAt Go.RowKit
open Att Rec Kcv Kind Plain

set_option maxRecDepth 100000 in
set_option maxHeartbeats 8000000 in
theorem core_e (w : World) (K : Int) (k : ByteArray) (A : Option Addr) (n q : Nat) (L : List A2) (u m v e key : ByteArray) (A2 : Option Addr) (n2 q2 : Nat) (l : List ByteArray) (hx : AttsS w (.slice A n q) L) (hy : StrsS w (.slice A2 n2 q2) l) (hn2 : n2 = l.length) (l1 : key.size ≤ 200)
    (c0 : RdR 8 L (fun x => #[rv K k u m v e x]) (.bool true)) (c00 : RdSh l 20 200 true) (Lp : List ByteArray) (E1 : Int) (hE1 : (E1 == 0) = false) (c1 : SplA 29 key l Lp E1)
    (P Q : ByteArray) (E F : Int) (B1 B2 qe qf : Bool) (hqe : (E == 0) = qe) (hqf : (F == 0) = qf) (hcase : (qe = false ∧ P = ⟨#[]⟩ ∧ B1 = false ∧ F = E) ∨ (qe = true ∧ B1 = true ∧ B2 = qf))
    (d1 : RdR 34 L (fun x => #[rv K k u m v e x]) (.tuple #[.string P, .int .i64 E])) (d2 : RdR 35 L (fun x => #[rv K k u m v e x, .string P]) (.tuple #[.bool B1, .int .i64 E]))
    (d3 : RdR 36 L (fun x => #[rv K k u m v e x]) (.tuple #[.string Q, .int .i64 F])) (d4 : RdR 35 L (fun x => #[rv K k u m v e x, .string Q]) (.tuple #[.bool B2, .int .i64 E])) (hT : Tab2 w) :
    Calls Tryd.prog 7 #[.agg #[.int .i64 K, .string k, .slice A n q, .string u, .string m, .string v, .string e], .string key, .slice A2 n2 q2] w fun x w' => x = .returned (.bool true) ∧ Since w w' := by
  subst hn2
  have t1 : decide ((200 : Int) < (key.size : Int)) = false := decide_eq_false (by omega)
  have b1 : (key.toList == key.toList) = true := beq_self_eq_true _
  have b2 : (key.toList != key.toList) = false := by rw [bne, b1]; rfl
  have b4 : (E == E) = true := beq_self_eq_true E
  have b5 : (F == F) = true := beq_self_eq_true F
  have b6 : (E != 0) = !qe := by rw [bne, hqe]
  have b7 : (qf == qf) = true := beq_self_eq_true qf
  clear l1
  rcases hcase with ⟨rfl, rfl, rfl, rfl⟩ | ⟨rfl, rfl, rfl⟩
  all_goals
    have hp := Lib.hid (hb_new w Tab2 hT #[.int .i64 K, .string k, .slice A n q, .string u, .string m, .string v, .string e] 26)
    have HX := Lib.hid (hx.since hp.out.since)
    have HY := Lib.hid (hy.since hp.out.since)
    have HS := Lib.hid hp.out.since
    obtain ⟨_, m0, m1, m2, m3, m4, m5, m6⟩ := hb7 hp
    have c9 := awake_k
    clear hx hy hT
    go_enter Tryd.func7, Tryd.ntmps7
    go_wp2_with fail
    clear m0 m1 m2 m3 m4 m5 m6
    refine (c0.calls0 hp.out.tabs HX.out) ?_
    intro w1 h1
    replace hp := Lib.hid (hp.out.step (by first | exact h1 | exact (Since.alloc (Since.refl _) _).step h1 | exact (Since.alloc (Since.alloc (Since.refl _) _) _).step h1 | exact (Since.drew (Since.refl _)).step h1 | exact (Since.alloc (Since.alloc (Since.alloc (Since.refl _) _) _) _).step h1))
    replace HX := Lib.hid (HX.out.since (by first | exact h1 | exact (Since.alloc (Since.refl _) _).step h1 | exact (Since.alloc (Since.alloc (Since.refl _) _) _).step h1 | exact (Since.drew (Since.refl _)).step h1 | exact (Since.alloc (Since.alloc (Since.alloc (Since.refl _) _) _) _).step h1))
    replace HY := Lib.hid (HY.out.since (by first | exact h1 | exact (Since.alloc (Since.refl _) _).step h1 | exact (Since.alloc (Since.alloc (Since.refl _) _) _).step h1 | exact (Since.drew (Since.refl _)).step h1 | exact (Since.alloc (Since.alloc (Since.alloc (Since.refl _) _) _) _).step h1))
    replace HS := Lib.hid (HS.out.step (by first | exact h1 | exact (Since.alloc (Since.refl _) _).step h1 | exact (Since.alloc (Since.alloc (Since.refl _) _) _).step h1 | exact (Since.drew (Since.refl _)).step h1 | exact (Since.alloc (Since.alloc (Since.alloc (Since.refl _) _) _) _).step h1))
    clear h1
    go_wp2_with fail
    refine c00.calls HY.out ?_
    go_wp2_with fail
    refine c1.calls0 HY.out ?_
    intro v1 w2 ho h2
    replace hp := Lib.hid (hp.out.step h2)
    replace HX := Lib.hid (HX.out.since h2)
    replace HS := Lib.hid (HS.out.step h2)
    clear ho h2 HY
    obtain ⟨_, m0, m1, m2, m3, m4, m5, m6⟩ := hb7 hp
    go_wp2_with fail
    clear m0 m1 m2 m3 m4 m5 m6
    refine (d1.calls0 hp.out.tabs HX.out) ?_
    intro w21 h21
    replace hp := Lib.hid (hp.out.step (by first | exact h21 | exact (Since.alloc (Since.refl _) _).step h21 | exact (Since.alloc (Since.alloc (Since.refl _) _) _).step h21 | exact (Since.drew (Since.refl _)).step h21 | exact (Since.alloc (Since.alloc (Since.alloc (Since.refl _) _) _) _).step h21))
    replace HX := Lib.hid (HX.out.since (by first | exact h21 | exact (Since.alloc (Since.refl _) _).step h21 | exact (Since.alloc (Since.alloc (Since.refl _) _) _).step h21 | exact (Since.drew (Since.refl _)).step h21 | exact (Since.alloc (Since.alloc (Since.alloc (Since.refl _) _) _) _).step h21))
    replace HS := Lib.hid (HS.out.step (by first | exact h21 | exact (Since.alloc (Since.refl _) _).step h21 | exact (Since.alloc (Since.alloc (Since.refl _) _) _).step h21 | exact (Since.drew (Since.refl _)).step h21 | exact (Since.alloc (Since.alloc (Since.alloc (Since.refl _) _) _) _).step h21))
    clear h21
    obtain ⟨_, m0, m1, m2, m3, m4, m5, m6⟩ := hb7 hp
    go_wp2_with fail
    clear m0 m1 m2 m3 m4 m5 m6
    refine (d2.calls0 hp.out.tabs HX.out) ?_
    intro w22 h22
    replace hp := Lib.hid (hp.out.step (by first | exact h22 | exact (Since.alloc (Since.refl _) _).step h22 | exact (Since.alloc (Since.alloc (Since.refl _) _) _).step h22 | exact (Since.drew (Since.refl _)).step h22 | exact (Since.alloc (Since.alloc (Since.alloc (Since.refl _) _) _) _).step h22))
    replace HX := Lib.hid (HX.out.since (by first | exact h22 | exact (Since.alloc (Since.refl _) _).step h22 | exact (Since.alloc (Since.alloc (Since.refl _) _) _).step h22 | exact (Since.drew (Since.refl _)).step h22 | exact (Since.alloc (Since.alloc (Since.alloc (Since.refl _) _) _) _).step h22))
    replace HS := Lib.hid (HS.out.step (by first | exact h22 | exact (Since.alloc (Since.refl _) _).step h22 | exact (Since.alloc (Since.alloc (Since.refl _) _) _).step h22 | exact (Since.drew (Since.refl _)).step h22 | exact (Since.alloc (Since.alloc (Since.alloc (Since.refl _) _) _) _).step h22))
    clear h22
    obtain ⟨_, m0, m1, m2, m3, m4, m5, m6⟩ := hb7 hp
    go_wp2_with fail
    clear m0 m1 m2 m3 m4 m5 m6
    refine (d3.calls0 hp.out.tabs HX.out) ?_
    intro w23 h23
    replace hp := Lib.hid (hp.out.step (by first | exact h23 | exact (Since.alloc (Since.refl _) _).step h23 | exact (Since.alloc (Since.alloc (Since.refl _) _) _).step h23 | exact (Since.drew (Since.refl _)).step h23 | exact (Since.alloc (Since.alloc (Since.alloc (Since.refl _) _) _) _).step h23))
    replace HX := Lib.hid (HX.out.since (by first | exact h23 | exact (Since.alloc (Since.refl _) _).step h23 | exact (Since.alloc (Since.alloc (Since.refl _) _) _).step h23 | exact (Since.drew (Since.refl _)).step h23 | exact (Since.alloc (Since.alloc (Since.alloc (Since.refl _) _) _) _).step h23))
    replace HS := Lib.hid (HS.out.step (by first | exact h23 | exact (Since.alloc (Since.refl _) _).step h23 | exact (Since.alloc (Since.alloc (Since.refl _) _) _).step h23 | exact (Since.drew (Since.refl _)).step h23 | exact (Since.alloc (Since.alloc (Since.alloc (Since.refl _) _) _) _).step h23))
    clear h23
    obtain ⟨_, m0, m1, m2, m3, m4, m5, m6⟩ := hb7 hp
    go_wp2_with fail
    clear m0 m1 m2 m3 m4 m5 m6
    refine (d4.calls0 hp.out.tabs HX.out) ?_
    intro w24 h24
    replace hp := Lib.hid (hp.out.step (by first | exact h24 | exact (Since.alloc (Since.refl _) _).step h24 | exact (Since.alloc (Since.alloc (Since.refl _) _) _).step h24 | exact (Since.drew (Since.refl _)).step h24 | exact (Since.alloc (Since.alloc (Since.alloc (Since.refl _) _) _) _).step h24))
    replace HX := Lib.hid (HX.out.since (by first | exact h24 | exact (Since.alloc (Since.refl _) _).step h24 | exact (Since.alloc (Since.alloc (Since.refl _) _) _).step h24 | exact (Since.drew (Since.refl _)).step h24 | exact (Since.alloc (Since.alloc (Since.alloc (Since.refl _) _) _) _).step h24))
    replace HS := Lib.hid (HS.out.step (by first | exact h24 | exact (Since.alloc (Since.refl _) _).step h24 | exact (Since.alloc (Since.alloc (Since.refl _) _) _).step h24 | exact (Since.drew (Since.refl _)).step h24 | exact (Since.alloc (Since.alloc (Since.alloc (Since.refl _) _) _) _).step h24))
    clear h24
    go_wp2_with fail
    refine (c9.calls0 hp.out.tabs) ?_
    intro w28 h28
    replace HS := Lib.hid (HS.out.step (by first | exact h28 | exact (Since.alloc (Since.refl _) _).step h28 | exact (Since.alloc (Since.alloc (Since.refl _) _) _).step h28 | exact (Since.drew (Since.refl _)).step h28 | exact (Since.alloc (Since.alloc (Since.alloc (Since.refl _) _) _) _).step h28))
    clear h28
    go_wp2_with fail
    go_ret
    exact ⟨rfl, HS.out⟩
set_option maxRecDepth 100000 in
set_option maxHeartbeats 8000000 in
theorem core_0 (w : World) (K : Int) (k : ByteArray) (A : Option Addr) (n q : Nat) (L : List A2) (u m v e key : ByteArray) (A2 : Option Addr) (n2 q2 : Nat) (l : List ByteArray) (hx : AttsS w (.slice A n q) L) (hy : StrsS w (.slice A2 n2 q2) l) (hn2 : n2 = l.length) (l1 : key.size ≤ 200)
    (c0 : RdR 8 L (fun x => #[rv K k u m v e x]) (.bool true)) (c00 : RdSh l 20 200 true) (Lp : List ByteArray) (hLp : Lp.length = n2 + 1) (hn8 : n2 ≤ 8) (b3 : (((n2 : Int) + 1) != (n2 : Int) + 1) = false) (c1 : SplA 29 key l Lp 0) (c3 : RdQ 31 Lp (fun x => #[x]) (.tuple #[.string key, .int .i64 0])) (c4 : RdQ 31 Lp.reverse (fun x => #[x]) (.tuple #[.string key, .int .i64 0]))
    (P Q : ByteArray) (E F : Int) (B1 B2 qe qf : Bool) (hqe : (E == 0) = qe) (hqf : (F == 0) = qf) (hcase : (qe = false ∧ P = ⟨#[]⟩ ∧ B1 = false ∧ F = E) ∨ (qe = true ∧ B1 = true ∧ B2 = qf))
    (d1 : RdR 34 L (fun x => #[rv K k u m v e x]) (.tuple #[.string P, .int .i64 E])) (d2 : RdR 35 L (fun x => #[rv K k u m v e x, .string P]) (.tuple #[.bool B1, .int .i64 E]))
    (d3 : RdR 36 L (fun x => #[rv K k u m v e x]) (.tuple #[.string Q, .int .i64 F])) (d4 : RdR 35 L (fun x => #[rv K k u m v e x, .string Q]) (.tuple #[.bool B2, .int .i64 E])) (hT : Tab2 w) :
    Calls Tryd.prog 7 #[.agg #[.int .i64 K, .string k, .slice A n q, .string u, .string m, .string v, .string e], .string key, .slice A2 n2 q2] w fun x w' => x = .returned (.bool true) ∧ Since w w' := by
  subst hn2
  have t1 : decide ((200 : Int) < (key.size : Int)) = false := decide_eq_false (by omega)
  have b1 : (key.toList == key.toList) = true := beq_self_eq_true _
  have b2 : (key.toList != key.toList) = false := by rw [bne, b1]; rfl
  have b4 : (E == E) = true := beq_self_eq_true E
  have b5 : (F == F) = true := beq_self_eq_true F
  have b6 : (E != 0) = !qe := by rw [bne, hqe]
  have b7 : (qf == qf) = true := beq_self_eq_true qf
  clear l1
  rcases hcase with ⟨rfl, rfl, rfl, rfl⟩ | ⟨rfl, rfl, rfl⟩
  all_goals
    have hp := Lib.hid (hb_new w Tab2 hT #[.int .i64 K, .string k, .slice A n q, .string u, .string m, .string v, .string e] 26)
    have HX := Lib.hid (hx.since hp.out.since)
    have HY := Lib.hid (hy.since hp.out.since)
    have HS := Lib.hid hp.out.since
    obtain ⟨_, m0, m1, m2, m3, m4, m5, m6⟩ := hb7 hp
    have c9 := awake_k
    clear hx hy hT
    go_enter Tryd.func7, Tryd.ntmps7
    go_wp2_with fail
    clear m0 m1 m2 m3 m4 m5 m6
    refine (c0.calls0 hp.out.tabs HX.out) ?_
    intro w1 h1
    replace hp := Lib.hid (hp.out.step (by first | exact h1 | exact (Since.alloc (Since.refl _) _).step h1 | exact (Since.alloc (Since.alloc (Since.refl _) _) _).step h1 | exact (Since.drew (Since.refl _)).step h1 | exact (Since.alloc (Since.alloc (Since.alloc (Since.refl _) _) _) _).step h1))
    replace HX := Lib.hid (HX.out.since (by first | exact h1 | exact (Since.alloc (Since.refl _) _).step h1 | exact (Since.alloc (Since.alloc (Since.refl _) _) _).step h1 | exact (Since.drew (Since.refl _)).step h1 | exact (Since.alloc (Since.alloc (Since.alloc (Since.refl _) _) _) _).step h1))
    replace HY := Lib.hid (HY.out.since (by first | exact h1 | exact (Since.alloc (Since.refl _) _).step h1 | exact (Since.alloc (Since.alloc (Since.refl _) _) _).step h1 | exact (Since.drew (Since.refl _)).step h1 | exact (Since.alloc (Since.alloc (Since.alloc (Since.refl _) _) _) _).step h1))
    replace HS := Lib.hid (HS.out.step (by first | exact h1 | exact (Since.alloc (Since.refl _) _).step h1 | exact (Since.alloc (Since.alloc (Since.refl _) _) _).step h1 | exact (Since.drew (Since.refl _)).step h1 | exact (Since.alloc (Since.alloc (Since.alloc (Since.refl _) _) _) _).step h1))
    clear h1
    go_wp2_with fail
    refine c00.calls HY.out ?_
    go_wp2_with fail
    refine c1.calls0 HY.out ?_
    intro v1 w2 ho h2
    have HO := Lib.hid ho
    obtain ⟨g1, cap, hv1⟩ : ∃ g1 cap, v1 = .slice (some ⟨g1, 0, none⟩) (l.length + 1) cap := by
      rcases ho.2 with ⟨_, hn⟩ | ⟨g, cap, cur, hv, _⟩
      · omega
      · rw [hLp] at hv; exact ⟨g, cap, hv⟩
    subst hv1
    have H2 := Lib.hid h2
    clear ho h2
    go_wp2_with fail
    refine c3.calls0 (own_strs HO.out) ?_
    intro w3 h3
    replace HO := Lib.hid (Att.row_since HO.out h3)
    replace H2 := Lib.hid (Since.step H2.out h3)
    clear h3
    go_wp2_with fail
    refine (rev_own _ _ _ Lp (by omega) HO.out H2.out (by omega)).mono ?_
    rintro e4 w4 ⟨rfl, hrv, h4⟩
    replace hp := Lib.hid (hp.out.step h4)
    replace HX := Lib.hid (HX.out.since h4)
    replace HS := Lib.hid (HS.out.step h4)
    have HR := Lib.hid hrv
    clear hrv h4 HO H2 HY
    go_wp2_with fail
    refine c4.calls0 HR.out ?_
    intro w5 h5
    replace hp := Lib.hid (hp.out.step h5)
    replace HX := Lib.hid (HX.out.since h5)
    replace HS := Lib.hid (HS.out.step h5)
    clear h5 HR
    obtain ⟨_, m0, m1, m2, m3, m4, m5, m6⟩ := hb7 hp
    go_wp2_with fail
    clear m0 m1 m2 m3 m4 m5 m6
    refine (d1.calls0 hp.out.tabs HX.out) ?_
    intro w21 h21
    replace hp := Lib.hid (hp.out.step (by first | exact h21 | exact (Since.alloc (Since.refl _) _).step h21 | exact (Since.alloc (Since.alloc (Since.refl _) _) _).step h21 | exact (Since.drew (Since.refl _)).step h21 | exact (Since.alloc (Since.alloc (Since.alloc (Since.refl _) _) _) _).step h21))
    replace HX := Lib.hid (HX.out.since (by first | exact h21 | exact (Since.alloc (Since.refl _) _).step h21 | exact (Since.alloc (Since.alloc (Since.refl _) _) _).step h21 | exact (Since.drew (Since.refl _)).step h21 | exact (Since.alloc (Since.alloc (Since.alloc (Since.refl _) _) _) _).step h21))
    replace HS := Lib.hid (HS.out.step (by first | exact h21 | exact (Since.alloc (Since.refl _) _).step h21 | exact (Since.alloc (Since.alloc (Since.refl _) _) _).step h21 | exact (Since.drew (Since.refl _)).step h21 | exact (Since.alloc (Since.alloc (Since.alloc (Since.refl _) _) _) _).step h21))
    clear h21
    obtain ⟨_, m0, m1, m2, m3, m4, m5, m6⟩ := hb7 hp
    go_wp2_with fail
    clear m0 m1 m2 m3 m4 m5 m6
    refine (d2.calls0 hp.out.tabs HX.out) ?_
    intro w22 h22
    replace hp := Lib.hid (hp.out.step (by first | exact h22 | exact (Since.alloc (Since.refl _) _).step h22 | exact (Since.alloc (Since.alloc (Since.refl _) _) _).step h22 | exact (Since.drew (Since.refl _)).step h22 | exact (Since.alloc (Since.alloc (Since.alloc (Since.refl _) _) _) _).step h22))
    replace HX := Lib.hid (HX.out.since (by first | exact h22 | exact (Since.alloc (Since.refl _) _).step h22 | exact (Since.alloc (Since.alloc (Since.refl _) _) _).step h22 | exact (Since.drew (Since.refl _)).step h22 | exact (Since.alloc (Since.alloc (Since.alloc (Since.refl _) _) _) _).step h22))
    replace HS := Lib.hid (HS.out.step (by first | exact h22 | exact (Since.alloc (Since.refl _) _).step h22 | exact (Since.alloc (Since.alloc (Since.refl _) _) _).step h22 | exact (Since.drew (Since.refl _)).step h22 | exact (Since.alloc (Since.alloc (Since.alloc (Since.refl _) _) _) _).step h22))
    clear h22
    obtain ⟨_, m0, m1, m2, m3, m4, m5, m6⟩ := hb7 hp
    go_wp2_with fail
    clear m0 m1 m2 m3 m4 m5 m6
    refine (d3.calls0 hp.out.tabs HX.out) ?_
    intro w23 h23
    replace hp := Lib.hid (hp.out.step (by first | exact h23 | exact (Since.alloc (Since.refl _) _).step h23 | exact (Since.alloc (Since.alloc (Since.refl _) _) _).step h23 | exact (Since.drew (Since.refl _)).step h23 | exact (Since.alloc (Since.alloc (Since.alloc (Since.refl _) _) _) _).step h23))
    replace HX := Lib.hid (HX.out.since (by first | exact h23 | exact (Since.alloc (Since.refl _) _).step h23 | exact (Since.alloc (Since.alloc (Since.refl _) _) _).step h23 | exact (Since.drew (Since.refl _)).step h23 | exact (Since.alloc (Since.alloc (Since.alloc (Since.refl _) _) _) _).step h23))
    replace HS := Lib.hid (HS.out.step (by first | exact h23 | exact (Since.alloc (Since.refl _) _).step h23 | exact (Since.alloc (Since.alloc (Since.refl _) _) _).step h23 | exact (Since.drew (Since.refl _)).step h23 | exact (Since.alloc (Since.alloc (Since.alloc (Since.refl _) _) _) _).step h23))
    clear h23
    obtain ⟨_, m0, m1, m2, m3, m4, m5, m6⟩ := hb7 hp
    go_wp2_with fail
    clear m0 m1 m2 m3 m4 m5 m6
    refine (d4.calls0 hp.out.tabs HX.out) ?_
    intro w24 h24
    replace hp := Lib.hid (hp.out.step (by first | exact h24 | exact (Since.alloc (Since.refl _) _).step h24 | exact (Since.alloc (Since.alloc (Since.refl _) _) _).step h24 | exact (Since.drew (Since.refl _)).step h24 | exact (Since.alloc (Since.alloc (Since.alloc (Since.refl _) _) _) _).step h24))
    replace HX := Lib.hid (HX.out.since (by first | exact h24 | exact (Since.alloc (Since.refl _) _).step h24 | exact (Since.alloc (Since.alloc (Since.refl _) _) _).step h24 | exact (Since.drew (Since.refl _)).step h24 | exact (Since.alloc (Since.alloc (Since.alloc (Since.refl _) _) _) _).step h24))
    replace HS := Lib.hid (HS.out.step (by first | exact h24 | exact (Since.alloc (Since.refl _) _).step h24 | exact (Since.alloc (Since.alloc (Since.refl _) _) _).step h24 | exact (Since.drew (Since.refl _)).step h24 | exact (Since.alloc (Since.alloc (Since.alloc (Since.refl _) _) _) _).step h24))
    clear h24
    go_wp2_with fail
    refine (c9.calls0 hp.out.tabs) ?_
    intro w28 h28
    replace HS := Lib.hid (HS.out.step (by first | exact h28 | exact (Since.alloc (Since.refl _) _).step h28 | exact (Since.alloc (Since.alloc (Since.refl _) _) _).step h28 | exact (Since.drew (Since.refl _)).step h28 | exact (Since.alloc (Since.alloc (Since.alloc (Since.refl _) _) _) _).step h28))
    clear h28
    go_wp2_with fail
    go_ret
    exact ⟨rfl, HS.out⟩
set_option maxRecDepth 100000 in
set_option maxHeartbeats 4000000 in
theorem big_1 (w : World) (K : Int) (k : ByteArray) (A : Option Addr) (n q : Nat) (L : List A2) (u m v e key : ByteArray) (A2 : Option Addr) (n2 q2 : Nat) (l : List ByteArray) (hx : AttsS w (.slice A n q) L) (hy : StrsS w (.slice A2 n2 q2) l) (c0 : RdR 8 L (fun x => #[rv K k u m v e x]) (.bool false)) (hT : Tab2 w) :
    Calls Tryd.prog 7 #[.agg #[.int .i64 K, .string k, .slice A n q, .string u, .string m, .string v, .string e], .string key, .slice A2 n2 q2] w fun x w' => x = .returned (.bool true) ∧ Since w w' := by
  skip
  have hp := Lib.hid (hb_new w Tab2 hT #[.int .i64 K, .string k, .slice A n q, .string u, .string m, .string v, .string e] 26)
  have HX := Lib.hid (hx.since hp.out.since)
  have HY := Lib.hid (hy.since hp.out.since)
  have HS := Lib.hid hp.out.since
  obtain ⟨_, m0, m1, m2, m3, m4, m5, m6⟩ := hb7 hp
  have c9 := awake_k
  clear hx hy hT
  go_enter Tryd.func7, Tryd.ntmps7
  go_wp2_with fail
  clear m0 m1 m2 m3 m4 m5 m6
  refine (c0.calls0 hp.out.tabs HX.out) ?_
  intro w1 h1
  replace hp := Lib.hid (hp.out.step (by first | exact h1 | exact (Since.alloc (Since.refl _) _).step h1 | exact (Since.alloc (Since.alloc (Since.refl _) _) _).step h1 | exact (Since.drew (Since.refl _)).step h1 | exact (Since.alloc (Since.alloc (Since.alloc (Since.refl _) _) _) _).step h1))
  replace HX := Lib.hid (HX.out.since (by first | exact h1 | exact (Since.alloc (Since.refl _) _).step h1 | exact (Since.alloc (Since.alloc (Since.refl _) _) _).step h1 | exact (Since.drew (Since.refl _)).step h1 | exact (Since.alloc (Since.alloc (Since.alloc (Since.refl _) _) _) _).step h1))
  replace HY := Lib.hid (HY.out.since (by first | exact h1 | exact (Since.alloc (Since.refl _) _).step h1 | exact (Since.alloc (Since.alloc (Since.refl _) _) _).step h1 | exact (Since.drew (Since.refl _)).step h1 | exact (Since.alloc (Since.alloc (Since.alloc (Since.refl _) _) _) _).step h1))
  replace HS := Lib.hid (HS.out.step (by first | exact h1 | exact (Since.alloc (Since.refl _) _).step h1 | exact (Since.alloc (Since.alloc (Since.refl _) _) _).step h1 | exact (Since.drew (Since.refl _)).step h1 | exact (Since.alloc (Since.alloc (Since.alloc (Since.refl _) _) _) _).step h1))
  clear h1
  go_wp2_with fail
  skip
  refine (c9.calls0 hp.out.tabs) ?_
  intro w8 h8
  replace HS := Lib.hid (HS.out.step (by first | exact h8 | exact (Since.alloc (Since.refl _) _).step h8 | exact (Since.alloc (Since.alloc (Since.refl _) _) _).step h8 | exact (Since.drew (Since.refl _)).step h8 | exact (Since.alloc (Since.alloc (Since.alloc (Since.refl _) _) _) _).step h8))
  clear h8
  go_wp2_with fail
  go_ret
  exact ⟨rfl, HS.out⟩
set_option maxRecDepth 100000 in
set_option maxHeartbeats 4000000 in
theorem big_2 (w : World) (K : Int) (k : ByteArray) (A : Option Addr) (n q : Nat) (L : List A2) (u m v e key : ByteArray) (A2 : Option Addr) (n2 q2 : Nat) (l : List ByteArray) (hx : AttsS w (.slice A n q) L) (hy : StrsS w (.slice A2 n2 q2) l) (l1 : 200 < key.size) (c0 : RdR 8 L (fun x => #[rv K k u m v e x]) (.bool true)) (hT : Tab2 w) :
    Calls Tryd.prog 7 #[.agg #[.int .i64 K, .string k, .slice A n q, .string u, .string m, .string v, .string e], .string key, .slice A2 n2 q2] w fun x w' => x = .returned (.bool true) ∧ Since w w' := by
  have t1 : decide ((200 : Int) < (key.size : Int)) = true := decide_eq_true (by omega)
  have hp := Lib.hid (hb_new w Tab2 hT #[.int .i64 K, .string k, .slice A n q, .string u, .string m, .string v, .string e] 26)
  have HX := Lib.hid (hx.since hp.out.since)
  have HY := Lib.hid (hy.since hp.out.since)
  have HS := Lib.hid hp.out.since
  obtain ⟨_, m0, m1, m2, m3, m4, m5, m6⟩ := hb7 hp
  have c9 := awake_k
  clear hx hy hT
  go_enter Tryd.func7, Tryd.ntmps7
  go_wp2_with fail
  clear m0 m1 m2 m3 m4 m5 m6
  refine (c0.calls0 hp.out.tabs HX.out) ?_
  intro w1 h1
  replace hp := Lib.hid (hp.out.step (by first | exact h1 | exact (Since.alloc (Since.refl _) _).step h1 | exact (Since.alloc (Since.alloc (Since.refl _) _) _).step h1 | exact (Since.drew (Since.refl _)).step h1 | exact (Since.alloc (Since.alloc (Since.alloc (Since.refl _) _) _) _).step h1))
  replace HX := Lib.hid (HX.out.since (by first | exact h1 | exact (Since.alloc (Since.refl _) _).step h1 | exact (Since.alloc (Since.alloc (Since.refl _) _) _).step h1 | exact (Since.drew (Since.refl _)).step h1 | exact (Since.alloc (Since.alloc (Since.alloc (Since.refl _) _) _) _).step h1))
  replace HY := Lib.hid (HY.out.since (by first | exact h1 | exact (Since.alloc (Since.refl _) _).step h1 | exact (Since.alloc (Since.alloc (Since.refl _) _) _).step h1 | exact (Since.drew (Since.refl _)).step h1 | exact (Since.alloc (Since.alloc (Since.alloc (Since.refl _) _) _) _).step h1))
  replace HS := Lib.hid (HS.out.step (by first | exact h1 | exact (Since.alloc (Since.refl _) _).step h1 | exact (Since.alloc (Since.alloc (Since.refl _) _) _).step h1 | exact (Since.drew (Since.refl _)).step h1 | exact (Since.alloc (Since.alloc (Since.alloc (Since.refl _) _) _) _).step h1))
  clear h1
  go_wp2_with fail
  skip
  refine (c9.calls0 hp.out.tabs) ?_
  intro w8 h8
  replace HS := Lib.hid (HS.out.step (by first | exact h8 | exact (Since.alloc (Since.refl _) _).step h8 | exact (Since.alloc (Since.alloc (Since.refl _) _) _).step h8 | exact (Since.drew (Since.refl _)).step h8 | exact (Since.alloc (Since.alloc (Since.alloc (Since.refl _) _) _) _).step h8))
  clear h8
  go_wp2_with fail
  go_ret
  exact ⟨rfl, HS.out⟩
set_option maxRecDepth 100000 in
set_option maxHeartbeats 4000000 in
theorem big_3 (w : World) (K : Int) (k : ByteArray) (A : Option Addr) (n q : Nat) (L : List A2) (u m v e key : ByteArray) (A2 : Option Addr) (n2 q2 : Nat) (l : List ByteArray) (hx : AttsS w (.slice A n q) L) (hy : StrsS w (.slice A2 n2 q2) l) (l1 : key.size ≤ 200) (c0 : RdR 8 L (fun x => #[rv K k u m v e x]) (.bool true)) (c00 : RdSh l 20 200 false) (hT : Tab2 w) :
    Calls Tryd.prog 7 #[.agg #[.int .i64 K, .string k, .slice A n q, .string u, .string m, .string v, .string e], .string key, .slice A2 n2 q2] w fun x w' => x = .returned (.bool true) ∧ Since w w' := by
  have t1 : decide ((200 : Int) < (key.size : Int)) = false := decide_eq_false (by omega)
  have hp := Lib.hid (hb_new w Tab2 hT #[.int .i64 K, .string k, .slice A n q, .string u, .string m, .string v, .string e] 26)
  have HX := Lib.hid (hx.since hp.out.since)
  have HY := Lib.hid (hy.since hp.out.since)
  have HS := Lib.hid hp.out.since
  obtain ⟨_, m0, m1, m2, m3, m4, m5, m6⟩ := hb7 hp
  have c9 := awake_k
  clear hx hy hT
  go_enter Tryd.func7, Tryd.ntmps7
  go_wp2_with fail
  clear m0 m1 m2 m3 m4 m5 m6
  refine (c0.calls0 hp.out.tabs HX.out) ?_
  intro w1 h1
  replace hp := Lib.hid (hp.out.step (by first | exact h1 | exact (Since.alloc (Since.refl _) _).step h1 | exact (Since.alloc (Since.alloc (Since.refl _) _) _).step h1 | exact (Since.drew (Since.refl _)).step h1 | exact (Since.alloc (Since.alloc (Since.alloc (Since.refl _) _) _) _).step h1))
  replace HX := Lib.hid (HX.out.since (by first | exact h1 | exact (Since.alloc (Since.refl _) _).step h1 | exact (Since.alloc (Since.alloc (Since.refl _) _) _).step h1 | exact (Since.drew (Since.refl _)).step h1 | exact (Since.alloc (Since.alloc (Since.alloc (Since.refl _) _) _) _).step h1))
  replace HY := Lib.hid (HY.out.since (by first | exact h1 | exact (Since.alloc (Since.refl _) _).step h1 | exact (Since.alloc (Since.alloc (Since.refl _) _) _).step h1 | exact (Since.drew (Since.refl _)).step h1 | exact (Since.alloc (Since.alloc (Since.alloc (Since.refl _) _) _) _).step h1))
  replace HS := Lib.hid (HS.out.step (by first | exact h1 | exact (Since.alloc (Since.refl _) _).step h1 | exact (Since.alloc (Since.alloc (Since.refl _) _) _).step h1 | exact (Since.drew (Since.refl _)).step h1 | exact (Since.alloc (Since.alloc (Since.alloc (Since.refl _) _) _) _).step h1))
  clear h1
  go_wp2_with fail
  (refine c00.calls HY.out ?_; go_wp2_with fail)
  refine (c9.calls0 hp.out.tabs) ?_
  intro w8 h8
  replace HS := Lib.hid (HS.out.step (by first | exact h8 | exact (Since.alloc (Since.refl _) _).step h8 | exact (Since.alloc (Since.alloc (Since.refl _) _) _).step h8 | exact (Since.drew (Since.refl _)).step h8 | exact (Since.alloc (Since.alloc (Since.alloc (Since.refl _) _) _) _).step h8))
  clear h8
  go_wp2_with fail
  go_ret
  exact ⟨rfl, HS.out⟩
theorem ofV_pair (K : Int) (k : ByteArray) (L : List A2) : ofV K k L = .tuple #[.string (if recE K k L = 0 then ofS K k else ⟨#[]⟩), .int .i64 (recE K k L)] := by
  unfold ofV
  by_cases h : recE K k L = 0
  · rw [if_pos h, if_pos h, h]
  · rw [if_neg h, if_neg h]
set_option maxRecDepth 100000 in
theorem walk (w : World) (K : Int) (k : ByteArray) (A : Option Addr) (n q : Nat) (L : List A2) (u m v e key : ByteArray) (A2 : Option Addr) (n2 q2 : Nat) (l : List ByteArray) (_f0 : (Lit.int .i64 K).wf = true) (_f1 : k.size ≤ maxLen) (hx : AttsS w (.slice A n q) L) (_f2 : n = L.length) (_f3 : ∀ p ∈ L, (Lit.int .i64 p.1).wf = true ∧ p.2.size ≤ maxLen)
    (_f4 : u.size ≤ maxLen) (_f5 : m.size ≤ maxLen) (_f6 : v.size ≤ maxLen) (_f7 : e.size ≤ maxLen) (_f8 : key.size ≤ maxLen) (hy : StrsS w (.slice A2 n2 q2) l) (hn2 : n2 = l.length) (_f9 : ∀ s ∈ l, s.size ≤ maxLen) (hT : Tab2 w) :
    Calls Tryd.prog 7 #[.agg #[.int .i64 K, .string k, .slice A n q, .string u, .string m, .string v, .string e], .string key, .slice A2 n2 q2] w fun x w' => x = .returned (.bool true) ∧ Below w.heap.size w w' := by
  have c0 := plain_rec K k u m v e L
  cases hb : plainB k u m v e L with
  | false => rw [hb] at c0; exact big_1 w K k A n q L u m v e key A2 n2 q2 l hx hy c0 hT
  | true =>
    rw [hb] at c0
    by_cases l1 : 200 < key.size
    · exact big_2 w K k A n q L u m v e key A2 n2 q2 l hx hy l1 c0 hT
    have c00 := shorts_rd l 20 200 _ rfl
    cases hq : shortsB l 20 200 with
    | false => rw [hq] at c00; exact big_3 w K k A n q L u m v e key A2 n2 q2 l hx hy (by omega) c0 c00 hT
    | true =>
      rw [hq] at c00
      obtain ⟨h1, h2, h3⟩ := plain_small hb
      have hk : k.size ≤ 100000 := by omega
      have d1 := of_rec K k u m v e L hk
      rw [ofV_pair] at d1
      have d3 := le_rec K k u m v e L hk
      have hP : (if recE K k L = 0 then ofS K k else ⟨#[]⟩ : ByteArray).size ≤ 5 := by
        split
        · rw [ofS_size]; decide
        · decide
      have hQ : (if recE K k L = 0 then leS K k else ⟨#[]⟩ : ByteArray).size ≤ 3 := by
        split
        · unfold leS; split
          · rw [ByteArray.size_extract]; omega
          · decide
        · decide
      have d2 := ch_rec K k u m v e (if recE K k L = 0 then ofS K k else ⟨#[]⟩) L hk (by omega)
      have d4 := ch_rec K k u m v e (if recE K k L = 0 then leS K k else ⟨#[]⟩) L hk (by omega)
      unfold chV at d2 d4
      unfold leV at d3
      have hcase : ((recE K k L == 0) = false ∧ (if recE K k L = 0 then ofS K k else ⟨#[]⟩ : ByteArray) = ⟨#[]⟩ ∧ (decide (recE K k L = 0) && (decide (ofS K k = (if recE K k L = 0 then ofS K k else ⟨#[]⟩ : ByteArray)) || (decide (leS K k = (if recE K k L = 0 then ofS K k else ⟨#[]⟩ : ByteArray)) && aesB K))) = false ∧ leE K k L = recE K k L) ∨
          ((recE K k L == 0) = true ∧ (decide (recE K k L = 0) && (decide (ofS K k = (if recE K k L = 0 then ofS K k else ⟨#[]⟩ : ByteArray)) || (decide (leS K k = (if recE K k L = 0 then ofS K k else ⟨#[]⟩ : ByteArray)) && aesB K))) = true ∧
            (decide (recE K k L = 0) && (decide (ofS K k = (if recE K k L = 0 then leS K k else ⟨#[]⟩ : ByteArray)) || (decide (leS K k = (if recE K k L = 0 then leS K k else ⟨#[]⟩ : ByteArray)) && aesB K))) = (leE K k L == 0)) := by
        by_cases h : recE K k L = 0
        · refine .inr ⟨beq_iff_eq.2 h, ?_, ?_⟩
          · rw [if_pos h, decide_eq_true h, decide_eq_true rfl]; rfl
          · have hne : ofS K k ≠ leS K k := by
              intro hh
              have h5 := ofS_size K k
              rw [if_pos h] at hQ
              rw [hh] at h5
              omega
            unfold leE
            rw [if_pos h, if_pos h, decide_eq_true h, decide_eq_false hne, decide_eq_true rfl]
            cases aesB K <;> rfl
        · refine .inl ⟨beq_eq_false_iff_ne.2 h, by rw [if_neg h], by rw [decide_eq_false h]; rfl, by unfold leE; rw [if_neg h]⟩
      by_cases hE : splE key l = 0
      · obtain ⟨_, s2, s3, ⟨s4, s5⟩, s6, s7⟩ := spl_back key l hE
        have c1 := split_any key (by omega) l
        rw [hE] at c1
        obtain ⟨_, hls⟩ := shortsB_spec l 20 200 hq
        have hLs : ∀ p ∈ splL key l, p.size ≤ 100000 := by
          intro p hp
          rw [s3] at hp
          rcases List.mem_append.1 hp with hp | hp
          · have := hls p hp; omega
          · rw [List.mem_singleton.1 hp]; have := sum_size l key; omega
        have c3 := comb_any (splL key l) hLs
        have c4 := comb_any (splL key l).reverse (fun p hp => hLs p (List.mem_reverse.1 hp))
        rw [s4, s5] at c3
        rw [s6, s7] at c4
        exact core_0 w K k A n q L u m v e key A2 n2 q2 l hx hy hn2 (by omega) c0 c00 (splL key l) (by rw [s3, hn2]; simp) (by omega) (by rw [bne_eq_false_iff_eq]) c1 c3 c4 _ _ _ _ _ _ _ _ rfl rfl hcase d1 d2 d3 d4 hT
      · exact core_e w K k A n q L u m v e key A2 n2 q2 l hx hy hn2 (by omega) c0 c00 _ _ (beq_eq_false_iff_ne.2 hE) (split_any key (by omega) l) _ _ _ _ _ _ _ _ rfl rfl hcase d1 d2 d3 d4 hT

set_option maxRecDepth 100000 in
theorem own : ownKnob Tryd.prog.godebug = none := by kernel_rfl
set_option maxRecDepth 100000 in
theorem laidOut : laidOutB Tryd.prog = true := by kernel_rfl

def laidL : List (String × DataW Unit) := [("unicode/utf8.acceptRanges", Rows.laid_unicode_utf8_acceptRanges), ("claviger/curve.lines", Rows.laid_claviger_curve_lines), ("claviger/kind.lines", Rows.laid_claviger_kind_lines), ("unicode/utf8.first", Rows.laid_unicode_utf8_first)]
set_option maxRecDepth 100000 in
theorem lifted (os : Os) (started : os.Started) (H : Type) (enc : TypeId × Value → H) :
    ReturnsInHanded {} Tryd.checked os 7 .any (fun w args => (Rows.kcvBackSpec.pre enc Tryd.prog Tryd.f7 [] false w args ∧ laidMetH Tryd.prog laidL w) ∧ sizedMet enc Tryd.prog Tryd.f7 (OpenSpec.ofChange Rows.kcvBackSpec) false w args)
      (Rows.kcvBackSpec.post enc Tryd.prog Tryd.f7 false true false false) := by
  refine returnsInHanded_of_change_and (C := Tryd.checked) (X := fun w _ => laidMetH Tryd.prog laidL w) (fun _ _ _ hh h => h.of_heap hh) own started (by kernel_rfl) Tryd.func7
    (ChangeSpec.witness_shaped (enc := enc) (C := Tryd.checked) (os := os) (X := fun w _ => laidMetH Tryd.prog laidL w) false (World.laidAll Tryd.prog os laidL) #[.agg #[.int .i64 0, .string ⟨#[]⟩, .slice none 0 0, .string ⟨#[]⟩, .string ⟨#[]⟩, .string ⟨#[]⟩, .string ⟨#[]⟩], .string ⟨#[]⟩, .slice none 0 0] 8 (World.laidAll_os _ _ _) (World.shaped_of_ZipB (by kernel_rfl) (by kernel_rfl)) (by kernel_rfl) (by kernel_rfl) (by kernel_rfl) (by rw [MakeChecks.laidMetH_plain _ _ _ (by kernel_rfl)]; exact laidMet_laidAll _ (by kernel_rfl) (by kernel_rfl))) ?_
  intro W base args ds gs before hval0 hW _ _ hL _
  have hval : ∀ (j : Nat) t v, Tryd.f7.params[j]? = some t → args[j]? = some v → Value.okWide Tryd.prog W .any base t v := hval0
  have hW' := hW
  obtain ⟨p, q, hA0, hV, rfl, hfz, hnd⟩ := hW
  have hA : DataW.TrodAll enc Tryd.prog W 0 (fun _ => true) true Tryd.f7.params.toList args.toList ds p := hA0
  rw [Tryd.params7] at hA hval
  obtain ⟨v0, vs0, d0, ds0, p0, q0, hargs, rfl, rfl, h0, r0⟩ := trodAll_cons hA
  obtain ⟨v1, vs1, d1, ds1, p1, q1, rfl, rfl, rfl, h1, r1⟩ := trodAll_cons r0
  obtain ⟨v2, vs2, d2, ds2, p2, q2, rfl, rfl, rfl, h2, r2⟩ := trodAll_cons r1
  obtain ⟨rfl, rfl, rfl⟩ := trodAll_nil r2
  obtain rfl : args = #[v0, v1, v2] := by cases args; simp_all
  obtain ⟨rfl, rfl⟩ := trodVars_none hV
  have h0k := h0
  have hlt0 : ∀ x ∈ p0, x.block < W.heap.size := fun x hx => by simpa using hW'.lt x (by simp [hx])
  obtain ⟨a0_K, a0_k, a0_A, a0_n, a0_q, a0_L, a0_u, a0_m, a0_v, a0_e, rfl, f0_0, f0_1, f0_2, f0_3, f0_4, f0_5, f0_6, f0_7, f0_8⟩ := Rec.record_arg (hval 0 26 v0 rfl rfl) h0 hlt0
  obtain ⟨a1, rfl, rfl, rfl, w1⟩ := Go.ChangeMaps.open_string Tryd.underlying9 (hval 1 9 v1 rfl rfl) h1
  obtain ⟨a2, n2, c2, rfl⟩ := okWide_slice Tryd.underlying30 (hval 2 30 v2 rfl rfl)
  have h2k := h2
  obtain ⟨fuel2, hf2⟩ := h2
  have hlt2 : ∀ x ∈ p2, x.block < W.heap.size := fun x hx => by simpa using hW'.lt x (by simp [hx])
  obtain ⟨x2, lA2, lN2, lX2⟩ := strs_arg hf2 hlt2
  clear hA0 hval0
  simp only [List.append_nil] at hW'
  refine (walk W a0_K a0_k a0_A a0_n a0_q a0_L a0_u a0_m a0_v a0_e a1 a2 n2 c2 x2 f0_0 f0_1 f0_2 f0_3 f0_4 f0_5 f0_6 f0_7 f0_8 w1 lA2 lN2 lX2 (Kind.tabs4_of hL)).mono fun e W' ⟨he, hg⟩ => ?_
  subst he
  exact ⟨_, rfl, _, _, _, _, _, [], hW', (trodAll_cons_mk (shut_bool Tryd.underlying4 _) trodAll_mk0), (trodAll_cons_mk (Below.trod laidOut (by kernel_rfl) (of_decide_eq_true (by kernel_rfl)) h0k hg hlt0) (trodAll_cons_mk (Go.ChangeMaps.shut_string Tryd.underlying9 w1) (trodAll_cons_mk (Below.trod laidOut (by kernel_rfl) (of_decide_eq_true (by kernel_rfl)) h2k hg hlt2) trodAll_mk0))), rfl, hg.frame _, fun h => by cases h⟩

set_option maxRecDepth 100000 in
theorem over : Rows.kcvBackRow.holds Tryd.pinned (OpenSpec.ofChange Rows.kcvBackSpec) :=
  OpenClaim.holds_of_wide 7 Tryd.f7 rfl rfl rfl rfl rfl rfl rfl ⟨rfl, rfl, rfl, rfl, rfl⟩ rfl rfl rfl rfl rfl (by kernel_rfl) Tryd.func7 (by kernel_rfl)
    (of_decide_eq_true (by kernel_rfl)) (by unfold Func.isWrapper; first | (rw [if_pos (by decide +kernel)]; kernel_rfl) | (rw [if_neg (by decide +kernel)]; exact ⟨rfl, rfl⟩))
    (fun os started H enc _ => lifted os started H enc)

set_option maxRecDepth 100000 in
theorem proved : Rows.KcvBackCardSaid :=
  Claim7.holds_tied_plain_at .later [] [.data, .data, .data, .pinned] true Rows.kcvBackCard.stood.harness false
    over (fun _ h => by cases h) (by kernel_rfl) (fun _ h => by cases h) kcvBack_row_tie rfl ⟨rfl, rfl⟩ (by kernel_rfl) rfl
    (fun f fn hf hfn => by
      obtain rfl : f = 7 := Option.some.inj ((show Tryd.prog.funcNamed "claviger/clavigerlaw45.KcvBack" = some 7 by kernel_rfl).symm.trans hf) |>.symm
      obtain rfl : fn = Tryd.f7 := (Option.some.inj (Tryd.func7.symm.trans hfn)).symm
      exact ⟨by kernel_rfl, fun j t ht => by
        rw [Tryd.params7] at ht
        have hm : t ∈ [26, 9, 30] := by simpa using Array.mem_of_getElem? ht
        have hall : ([26, 9, 30].all fun u => !Tryd.prog.wantsStandIn u) = true := by kernel_rfl
        exact (show Tryd.prog.wantsStandIn t = false by simpa using List.all_eq_true.1 hall t hm)⟩)
    (by kernel_rfl)

end Go.Proofs.YtgfdomdbjiflmaaDoor.kcvBack
