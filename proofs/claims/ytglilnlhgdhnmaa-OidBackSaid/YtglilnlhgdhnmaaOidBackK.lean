/- The law OidBack: what was written is read, as bytes and as a text; what is read is written so again; unlike names have unlike contents; no conditions. -/
import Derived.Test.YtglilnlhgdhnmaaRows
import Derived.WalkKit
import Derived.ProofKit
import Derived.OpenShut
import Derived.Lib.Hide
import Derived.Test.YtglilnlhgdhnmaaPk20
namespace Go.Proofs.Ytglilnlhgdhnmaa.oidBack
open Go.ChangeShapes Go.WideShapes Go.ChangeAt Go.RowKit
open Oid

set_option maxRecDepth 100000 in
set_option maxHeartbeats 8000000 in
theorem core_no (w : World) (A0 A1 : Option Addr) (n m d0 d1 : Nat) (a b : List Int) (c t : ByteArray) (ha : IntsS w (.slice A0 n d0) a) (hb : IntsS w (.slice A1 m d1) b) (l0 : (n : Int) ≤ 60) (l1 : (m : Int) ≤ 60) (l2 : (c.size : Int) ≤ 200) (l3 : (t.size : Int) ≤ 200)
    (X Y : ByteArray) (is f1 f2 : Bool) (C T : List Int)
    (c1 : RdI 16 a (.tuple #[.string X, .bool false])) (c2 : RdI 16 b (.tuple #[.string Y, .bool is]))
    (c20 : MkI 18 #[.string c] C f1) (c21 : MkI 25 #[.string t] T f2)
    (c22 : Hid (f1 = true → RdI 16 C (.tuple #[.string c, .bool true]))) (c23 : Hid (f2 = true → RdI 27 T (.string t))) :
    Calls Try.prog 4 #[.slice A0 n d0, .slice A1 m d1, .string c, .string t] w fun x w' => x = .returned (.bool true) ∧ Since w w' := by
  have HS := Lib.hid (Since.refl w)
  have HA := Lib.hid ha
  have HB := Lib.hid hb
  have t1 : decide ((60 : Int) < (n : Int)) = false := decide_eq_false (by omega)
  have t2 : decide ((60 : Int) < (m : Int)) = false := decide_eq_false (by omega)
  have t3 : decide ((200 : Int) < (c.size : Int)) = false := decide_eq_false (by omega)
  have t4 : decide ((200 : Int) < (t.size : Int)) = false := decide_eq_false (by omega)
  clear ha hb
  cases is
  all_goals
    cases f1
    · clear c22
      cases f2
      · clear c23
        go_enter Try.func4, Try.ntmps4
        go_wp2_with fail
        refine (c1.calls0 HA.out) ?_
        intro w1 h1
        replace HA := Lib.hid (HA.out.since (by first | exact h1 | exact (Since.alloc (Since.refl _) _).step h1 | exact (Since.alloc (Since.alloc (Since.refl _) _) _).step h1 | exact (Since.drew (Since.refl _)).step h1 | exact (Since.alloc (Since.alloc (Since.alloc (Since.refl _) _) _) _).step h1))
        replace HB := Lib.hid (HB.out.since (by first | exact h1 | exact (Since.alloc (Since.refl _) _).step h1 | exact (Since.alloc (Since.alloc (Since.refl _) _) _).step h1 | exact (Since.drew (Since.refl _)).step h1 | exact (Since.alloc (Since.alloc (Since.alloc (Since.refl _) _) _) _).step h1))
        replace HS := Lib.hid (HS.out.step (by first | exact h1 | exact (Since.alloc (Since.refl _) _).step h1 | exact (Since.alloc (Since.alloc (Since.refl _) _) _).step h1 | exact (Since.drew (Since.refl _)).step h1 | exact (Since.alloc (Since.alloc (Since.alloc (Since.refl _) _) _) _).step h1))
        clear h1
        go_wp2_with fail
        refine (c2.calls0 HB.out) ?_
        intro w2 h2
        replace HA := Lib.hid (HA.out.since (by first | exact h2 | exact (Since.alloc (Since.refl _) _).step h2 | exact (Since.alloc (Since.alloc (Since.refl _) _) _).step h2 | exact (Since.drew (Since.refl _)).step h2 | exact (Since.alloc (Since.alloc (Since.alloc (Since.refl _) _) _) _).step h2))
        replace HB := Lib.hid (HB.out.since (by first | exact h2 | exact (Since.alloc (Since.refl _) _).step h2 | exact (Since.alloc (Since.alloc (Since.refl _) _) _).step h2 | exact (Since.drew (Since.refl _)).step h2 | exact (Since.alloc (Since.alloc (Since.alloc (Since.refl _) _) _) _).step h2))
        replace HS := Lib.hid (HS.out.step (by first | exact h2 | exact (Since.alloc (Since.refl _) _).step h2 | exact (Since.alloc (Since.alloc (Since.refl _) _) _).step h2 | exact (Since.drew (Since.refl _)).step h2 | exact (Since.alloc (Since.alloc (Since.alloc (Since.refl _) _) _) _).step h2))
        clear h2
        go_wp2_with fail
        refine (c20.calls0) ?_
        intro v20 w20 hv20 h20
        have HV20 := Lib.hid hv20
        clear hv20
        replace HS := Lib.hid (HS.out.step (by first | exact h20 | exact (Since.alloc (Since.refl _) _).step h20 | exact (Since.alloc (Since.alloc (Since.refl _) _) _).step h20 | exact (Since.drew (Since.refl _)).step h20 | exact (Since.alloc (Since.alloc (Since.alloc (Since.refl _) _) _) _).step h20))
        clear h20
        go_wp2_with fail
        refine (c21.calls0) ?_
        intro v21 w21 hv21 h21
        have HV21 := Lib.hid hv21
        clear hv21
        replace HS := Lib.hid (HS.out.step (by first | exact h21 | exact (Since.alloc (Since.refl _) _).step h21 | exact (Since.alloc (Since.alloc (Since.refl _) _) _).step h21 | exact (Since.drew (Since.refl _)).step h21 | exact (Since.alloc (Since.alloc (Since.alloc (Since.refl _) _) _) _).step h21))
        clear h21
        go_wp2_with fail
        refine (awake_mak.calls0) ?_
        intro w30 h30
        replace HS := Lib.hid (HS.out.step (by first | exact h30 | exact (Since.alloc (Since.refl _) _).step h30 | exact (Since.alloc (Since.alloc (Since.refl _) _) _).step h30 | exact (Since.drew (Since.refl _)).step h30 | exact (Since.alloc (Since.alloc (Since.alloc (Since.refl _) _) _) _).step h30))
        clear h30
        go_wp2_with fail
        go_ret
        exact ⟨rfl, HS.out⟩
      · have q23 := c23.out rfl
        clear c23
        go_enter Try.func4, Try.ntmps4
        go_wp2_with fail
        refine (c1.calls0 HA.out) ?_
        intro w1 h1
        replace HA := Lib.hid (HA.out.since (by first | exact h1 | exact (Since.alloc (Since.refl _) _).step h1 | exact (Since.alloc (Since.alloc (Since.refl _) _) _).step h1 | exact (Since.drew (Since.refl _)).step h1 | exact (Since.alloc (Since.alloc (Since.alloc (Since.refl _) _) _) _).step h1))
        replace HB := Lib.hid (HB.out.since (by first | exact h1 | exact (Since.alloc (Since.refl _) _).step h1 | exact (Since.alloc (Since.alloc (Since.refl _) _) _).step h1 | exact (Since.drew (Since.refl _)).step h1 | exact (Since.alloc (Since.alloc (Since.alloc (Since.refl _) _) _) _).step h1))
        replace HS := Lib.hid (HS.out.step (by first | exact h1 | exact (Since.alloc (Since.refl _) _).step h1 | exact (Since.alloc (Since.alloc (Since.refl _) _) _).step h1 | exact (Since.drew (Since.refl _)).step h1 | exact (Since.alloc (Since.alloc (Since.alloc (Since.refl _) _) _) _).step h1))
        clear h1
        go_wp2_with fail
        refine (c2.calls0 HB.out) ?_
        intro w2 h2
        replace HA := Lib.hid (HA.out.since (by first | exact h2 | exact (Since.alloc (Since.refl _) _).step h2 | exact (Since.alloc (Since.alloc (Since.refl _) _) _).step h2 | exact (Since.drew (Since.refl _)).step h2 | exact (Since.alloc (Since.alloc (Since.alloc (Since.refl _) _) _) _).step h2))
        replace HB := Lib.hid (HB.out.since (by first | exact h2 | exact (Since.alloc (Since.refl _) _).step h2 | exact (Since.alloc (Since.alloc (Since.refl _) _) _).step h2 | exact (Since.drew (Since.refl _)).step h2 | exact (Since.alloc (Since.alloc (Since.alloc (Since.refl _) _) _) _).step h2))
        replace HS := Lib.hid (HS.out.step (by first | exact h2 | exact (Since.alloc (Since.refl _) _).step h2 | exact (Since.alloc (Since.alloc (Since.refl _) _) _).step h2 | exact (Since.drew (Since.refl _)).step h2 | exact (Since.alloc (Since.alloc (Since.alloc (Since.refl _) _) _) _).step h2))
        clear h2
        go_wp2_with fail
        refine (c20.calls0) ?_
        intro v20 w20 hv20 h20
        have HV20 := Lib.hid hv20
        clear hv20
        replace HS := Lib.hid (HS.out.step (by first | exact h20 | exact (Since.alloc (Since.refl _) _).step h20 | exact (Since.alloc (Since.alloc (Since.refl _) _) _).step h20 | exact (Since.drew (Since.refl _)).step h20 | exact (Since.alloc (Since.alloc (Since.alloc (Since.refl _) _) _) _).step h20))
        clear h20
        go_wp2_with fail
        refine (c21.calls0) ?_
        intro v21 w21 hv21 h21
        have HV21 := Lib.hid hv21
        clear hv21
        replace HS := Lib.hid (HS.out.step (by first | exact h21 | exact (Since.alloc (Since.refl _) _).step h21 | exact (Since.alloc (Since.alloc (Since.refl _) _) _).step h21 | exact (Since.drew (Since.refl _)).step h21 | exact (Since.alloc (Since.alloc (Since.alloc (Since.refl _) _) _) _).step h21))
        clear h21
        go_wp2_with fail
        refine (q23.calls0 HV21.out) ?_
        intro w22 h22
        replace HS := Lib.hid (HS.out.step (by first | exact h22 | exact (Since.alloc (Since.refl _) _).step h22 | exact (Since.alloc (Since.alloc (Since.refl _) _) _).step h22 | exact (Since.drew (Since.refl _)).step h22 | exact (Since.alloc (Since.alloc (Since.alloc (Since.refl _) _) _) _).step h22))
        clear h22
        go_wp2_with fail
        refine (awake_mak.calls0) ?_
        intro w30 h30
        replace HS := Lib.hid (HS.out.step (by first | exact h30 | exact (Since.alloc (Since.refl _) _).step h30 | exact (Since.alloc (Since.alloc (Since.refl _) _) _).step h30 | exact (Since.drew (Since.refl _)).step h30 | exact (Since.alloc (Since.alloc (Since.alloc (Since.refl _) _) _) _).step h30))
        clear h30
        go_wp2_with fail
        go_ret
        exact ⟨rfl, HS.out⟩
    · have q22 := c22.out rfl
      clear c22
      cases f2
      · clear c23
        go_enter Try.func4, Try.ntmps4
        go_wp2_with fail
        refine (c1.calls0 HA.out) ?_
        intro w1 h1
        replace HA := Lib.hid (HA.out.since (by first | exact h1 | exact (Since.alloc (Since.refl _) _).step h1 | exact (Since.alloc (Since.alloc (Since.refl _) _) _).step h1 | exact (Since.drew (Since.refl _)).step h1 | exact (Since.alloc (Since.alloc (Since.alloc (Since.refl _) _) _) _).step h1))
        replace HB := Lib.hid (HB.out.since (by first | exact h1 | exact (Since.alloc (Since.refl _) _).step h1 | exact (Since.alloc (Since.alloc (Since.refl _) _) _).step h1 | exact (Since.drew (Since.refl _)).step h1 | exact (Since.alloc (Since.alloc (Since.alloc (Since.refl _) _) _) _).step h1))
        replace HS := Lib.hid (HS.out.step (by first | exact h1 | exact (Since.alloc (Since.refl _) _).step h1 | exact (Since.alloc (Since.alloc (Since.refl _) _) _).step h1 | exact (Since.drew (Since.refl _)).step h1 | exact (Since.alloc (Since.alloc (Since.alloc (Since.refl _) _) _) _).step h1))
        clear h1
        go_wp2_with fail
        refine (c2.calls0 HB.out) ?_
        intro w2 h2
        replace HA := Lib.hid (HA.out.since (by first | exact h2 | exact (Since.alloc (Since.refl _) _).step h2 | exact (Since.alloc (Since.alloc (Since.refl _) _) _).step h2 | exact (Since.drew (Since.refl _)).step h2 | exact (Since.alloc (Since.alloc (Since.alloc (Since.refl _) _) _) _).step h2))
        replace HB := Lib.hid (HB.out.since (by first | exact h2 | exact (Since.alloc (Since.refl _) _).step h2 | exact (Since.alloc (Since.alloc (Since.refl _) _) _).step h2 | exact (Since.drew (Since.refl _)).step h2 | exact (Since.alloc (Since.alloc (Since.alloc (Since.refl _) _) _) _).step h2))
        replace HS := Lib.hid (HS.out.step (by first | exact h2 | exact (Since.alloc (Since.refl _) _).step h2 | exact (Since.alloc (Since.alloc (Since.refl _) _) _).step h2 | exact (Since.drew (Since.refl _)).step h2 | exact (Since.alloc (Since.alloc (Since.alloc (Since.refl _) _) _) _).step h2))
        clear h2
        go_wp2_with fail
        refine (c20.calls0) ?_
        intro v20 w20 hv20 h20
        have HV20 := Lib.hid hv20
        clear hv20
        replace HS := Lib.hid (HS.out.step (by first | exact h20 | exact (Since.alloc (Since.refl _) _).step h20 | exact (Since.alloc (Since.alloc (Since.refl _) _) _).step h20 | exact (Since.drew (Since.refl _)).step h20 | exact (Since.alloc (Since.alloc (Since.alloc (Since.refl _) _) _) _).step h20))
        clear h20
        go_wp2_with fail
        refine (q22.calls0 HV20.out) ?_
        intro w23 h23
        replace HS := Lib.hid (HS.out.step (by first | exact h23 | exact (Since.alloc (Since.refl _) _).step h23 | exact (Since.alloc (Since.alloc (Since.refl _) _) _).step h23 | exact (Since.drew (Since.refl _)).step h23 | exact (Since.alloc (Since.alloc (Since.alloc (Since.refl _) _) _) _).step h23))
        clear h23
        go_wp2_with fail
        refine (c21.calls0) ?_
        intro v21 w21 hv21 h21
        have HV21 := Lib.hid hv21
        clear hv21
        replace HS := Lib.hid (HS.out.step (by first | exact h21 | exact (Since.alloc (Since.refl _) _).step h21 | exact (Since.alloc (Since.alloc (Since.refl _) _) _).step h21 | exact (Since.drew (Since.refl _)).step h21 | exact (Since.alloc (Since.alloc (Since.alloc (Since.refl _) _) _) _).step h21))
        clear h21
        go_wp2_with fail
        refine (awake_mak.calls0) ?_
        intro w30 h30
        replace HS := Lib.hid (HS.out.step (by first | exact h30 | exact (Since.alloc (Since.refl _) _).step h30 | exact (Since.alloc (Since.alloc (Since.refl _) _) _).step h30 | exact (Since.drew (Since.refl _)).step h30 | exact (Since.alloc (Since.alloc (Since.alloc (Since.refl _) _) _) _).step h30))
        clear h30
        go_wp2_with fail
        go_ret
        exact ⟨rfl, HS.out⟩
      · have q23 := c23.out rfl
        clear c23
        go_enter Try.func4, Try.ntmps4
        go_wp2_with fail
        refine (c1.calls0 HA.out) ?_
        intro w1 h1
        replace HA := Lib.hid (HA.out.since (by first | exact h1 | exact (Since.alloc (Since.refl _) _).step h1 | exact (Since.alloc (Since.alloc (Since.refl _) _) _).step h1 | exact (Since.drew (Since.refl _)).step h1 | exact (Since.alloc (Since.alloc (Since.alloc (Since.refl _) _) _) _).step h1))
        replace HB := Lib.hid (HB.out.since (by first | exact h1 | exact (Since.alloc (Since.refl _) _).step h1 | exact (Since.alloc (Since.alloc (Since.refl _) _) _).step h1 | exact (Since.drew (Since.refl _)).step h1 | exact (Since.alloc (Since.alloc (Since.alloc (Since.refl _) _) _) _).step h1))
        replace HS := Lib.hid (HS.out.step (by first | exact h1 | exact (Since.alloc (Since.refl _) _).step h1 | exact (Since.alloc (Since.alloc (Since.refl _) _) _).step h1 | exact (Since.drew (Since.refl _)).step h1 | exact (Since.alloc (Since.alloc (Since.alloc (Since.refl _) _) _) _).step h1))
        clear h1
        go_wp2_with fail
        refine (c2.calls0 HB.out) ?_
        intro w2 h2
        replace HA := Lib.hid (HA.out.since (by first | exact h2 | exact (Since.alloc (Since.refl _) _).step h2 | exact (Since.alloc (Since.alloc (Since.refl _) _) _).step h2 | exact (Since.drew (Since.refl _)).step h2 | exact (Since.alloc (Since.alloc (Since.alloc (Since.refl _) _) _) _).step h2))
        replace HB := Lib.hid (HB.out.since (by first | exact h2 | exact (Since.alloc (Since.refl _) _).step h2 | exact (Since.alloc (Since.alloc (Since.refl _) _) _).step h2 | exact (Since.drew (Since.refl _)).step h2 | exact (Since.alloc (Since.alloc (Since.alloc (Since.refl _) _) _) _).step h2))
        replace HS := Lib.hid (HS.out.step (by first | exact h2 | exact (Since.alloc (Since.refl _) _).step h2 | exact (Since.alloc (Since.alloc (Since.refl _) _) _).step h2 | exact (Since.drew (Since.refl _)).step h2 | exact (Since.alloc (Since.alloc (Since.alloc (Since.refl _) _) _) _).step h2))
        clear h2
        go_wp2_with fail
        refine (c20.calls0) ?_
        intro v20 w20 hv20 h20
        have HV20 := Lib.hid hv20
        clear hv20
        replace HS := Lib.hid (HS.out.step (by first | exact h20 | exact (Since.alloc (Since.refl _) _).step h20 | exact (Since.alloc (Since.alloc (Since.refl _) _) _).step h20 | exact (Since.drew (Since.refl _)).step h20 | exact (Since.alloc (Since.alloc (Since.alloc (Since.refl _) _) _) _).step h20))
        clear h20
        go_wp2_with fail
        refine (q22.calls0 HV20.out) ?_
        intro w23 h23
        replace HS := Lib.hid (HS.out.step (by first | exact h23 | exact (Since.alloc (Since.refl _) _).step h23 | exact (Since.alloc (Since.alloc (Since.refl _) _) _).step h23 | exact (Since.drew (Since.refl _)).step h23 | exact (Since.alloc (Since.alloc (Since.alloc (Since.refl _) _) _) _).step h23))
        clear h23
        go_wp2_with fail
        refine (c21.calls0) ?_
        intro v21 w21 hv21 h21
        have HV21 := Lib.hid hv21
        clear hv21
        replace HS := Lib.hid (HS.out.step (by first | exact h21 | exact (Since.alloc (Since.refl _) _).step h21 | exact (Since.alloc (Since.alloc (Since.refl _) _) _).step h21 | exact (Since.drew (Since.refl _)).step h21 | exact (Since.alloc (Since.alloc (Since.alloc (Since.refl _) _) _) _).step h21))
        clear h21
        go_wp2_with fail
        refine (q23.calls0 HV21.out) ?_
        intro w22 h22
        replace HS := Lib.hid (HS.out.step (by first | exact h22 | exact (Since.alloc (Since.refl _) _).step h22 | exact (Since.alloc (Since.alloc (Since.refl _) _) _).step h22 | exact (Since.drew (Since.refl _)).step h22 | exact (Since.alloc (Since.alloc (Since.alloc (Since.refl _) _) _) _).step h22))
        clear h22
        go_wp2_with fail
        refine (awake_mak.calls0) ?_
        intro w30 h30
        replace HS := Lib.hid (HS.out.step (by first | exact h30 | exact (Since.alloc (Since.refl _) _).step h30 | exact (Since.alloc (Since.alloc (Since.refl _) _) _).step h30 | exact (Since.drew (Since.refl _)).step h30 | exact (Since.alloc (Since.alloc (Since.alloc (Since.refl _) _) _) _).step h30))
        clear h30
        go_wp2_with fail
        go_ret
        exact ⟨rfl, HS.out⟩
set_option maxRecDepth 100000 in
set_option maxHeartbeats 8000000 in
theorem core_yes (w : World) (A0 A1 : Option Addr) (n m d0 d1 : Nat) (a b : List Int) (c t : ByteArray) (ha : IntsS w (.slice A0 n d0) a) (hb : IntsS w (.slice A1 m d1) b) (l0 : (n : Int) ≤ 60) (l1 : (m : Int) ≤ 60) (l2 : (c.size : Int) ≤ 200) (l3 : (t.size : Int) ≤ 200)
    (X Y S : ByteArray) (f1 f2 : Bool) (C T : List Int)
    (c1 : RdI 16 a (.tuple #[.string X, .bool true])) (c2 : RdI 16 b (.tuple #[.string Y, .bool false]))
    (c3 : MkI 18 #[.string X] a true) (c4 : RdI 27 a (.string S)) (c5 : MkI 25 #[.string S] a true) (c6 : RdII 22 a a (.bool true))
    (c20 : MkI 18 #[.string c] C f1) (c21 : MkI 25 #[.string t] T f2)
    (c22 : Hid (f1 = true → RdI 16 C (.tuple #[.string c, .bool true]))) (c23 : Hid (f2 = true → RdI 27 T (.string t))) :
    Calls Try.prog 4 #[.slice A0 n d0, .slice A1 m d1, .string c, .string t] w fun x w' => x = .returned (.bool true) ∧ Since w w' := by
  have HS := Lib.hid (Since.refl w)
  have HA := Lib.hid ha
  have HB := Lib.hid hb
  have t1 : decide ((60 : Int) < (n : Int)) = false := decide_eq_false (by omega)
  have t2 : decide ((60 : Int) < (m : Int)) = false := decide_eq_false (by omega)
  have t3 : decide ((200 : Int) < (c.size : Int)) = false := decide_eq_false (by omega)
  have t4 : decide ((200 : Int) < (t.size : Int)) = false := decide_eq_false (by omega)
  clear ha hb
  cases f1
  · clear c22
    cases f2
    · clear c23
      go_enter Try.func4, Try.ntmps4
      go_wp2_with fail
      refine (c1.calls0 HA.out) ?_
      intro w1 h1
      replace HA := Lib.hid (HA.out.since (by first | exact h1 | exact (Since.alloc (Since.refl _) _).step h1 | exact (Since.alloc (Since.alloc (Since.refl _) _) _).step h1 | exact (Since.drew (Since.refl _)).step h1 | exact (Since.alloc (Since.alloc (Since.alloc (Since.refl _) _) _) _).step h1))
      replace HB := Lib.hid (HB.out.since (by first | exact h1 | exact (Since.alloc (Since.refl _) _).step h1 | exact (Since.alloc (Since.alloc (Since.refl _) _) _).step h1 | exact (Since.drew (Since.refl _)).step h1 | exact (Since.alloc (Since.alloc (Since.alloc (Since.refl _) _) _) _).step h1))
      replace HS := Lib.hid (HS.out.step (by first | exact h1 | exact (Since.alloc (Since.refl _) _).step h1 | exact (Since.alloc (Since.alloc (Since.refl _) _) _).step h1 | exact (Since.drew (Since.refl _)).step h1 | exact (Since.alloc (Since.alloc (Since.alloc (Since.refl _) _) _) _).step h1))
      clear h1
      go_wp2_with fail
      refine (c2.calls0 HB.out) ?_
      intro w2 h2
      replace HA := Lib.hid (HA.out.since (by first | exact h2 | exact (Since.alloc (Since.refl _) _).step h2 | exact (Since.alloc (Since.alloc (Since.refl _) _) _).step h2 | exact (Since.drew (Since.refl _)).step h2 | exact (Since.alloc (Since.alloc (Since.alloc (Since.refl _) _) _) _).step h2))
      replace HB := Lib.hid (HB.out.since (by first | exact h2 | exact (Since.alloc (Since.refl _) _).step h2 | exact (Since.alloc (Since.alloc (Since.refl _) _) _).step h2 | exact (Since.drew (Since.refl _)).step h2 | exact (Since.alloc (Since.alloc (Since.alloc (Since.refl _) _) _) _).step h2))
      replace HS := Lib.hid (HS.out.step (by first | exact h2 | exact (Since.alloc (Since.refl _) _).step h2 | exact (Since.alloc (Since.alloc (Since.refl _) _) _).step h2 | exact (Since.drew (Since.refl _)).step h2 | exact (Since.alloc (Since.alloc (Since.alloc (Since.refl _) _) _) _).step h2))
      clear h2
      go_wp2_with fail
      refine (c3.calls0) ?_
      intro v3 w3 hv3 h3
      have HV3 := Lib.hid hv3
      clear hv3
      replace HA := Lib.hid (HA.out.since (by first | exact h3 | exact (Since.alloc (Since.refl _) _).step h3 | exact (Since.alloc (Since.alloc (Since.refl _) _) _).step h3 | exact (Since.drew (Since.refl _)).step h3 | exact (Since.alloc (Since.alloc (Since.alloc (Since.refl _) _) _) _).step h3))
      replace HB := Lib.hid (HB.out.since (by first | exact h3 | exact (Since.alloc (Since.refl _) _).step h3 | exact (Since.alloc (Since.alloc (Since.refl _) _) _).step h3 | exact (Since.drew (Since.refl _)).step h3 | exact (Since.alloc (Since.alloc (Since.alloc (Since.refl _) _) _) _).step h3))
      replace HS := Lib.hid (HS.out.step (by first | exact h3 | exact (Since.alloc (Since.refl _) _).step h3 | exact (Since.alloc (Since.alloc (Since.refl _) _) _).step h3 | exact (Since.drew (Since.refl _)).step h3 | exact (Since.alloc (Since.alloc (Since.alloc (Since.refl _) _) _) _).step h3))
      clear h3
      go_wp2_with fail
      refine (c4.calls0 HA.out) ?_
      intro w4 h4
      replace HA := Lib.hid (HA.out.since (by first | exact h4 | exact (Since.alloc (Since.refl _) _).step h4 | exact (Since.alloc (Since.alloc (Since.refl _) _) _).step h4 | exact (Since.drew (Since.refl _)).step h4 | exact (Since.alloc (Since.alloc (Since.alloc (Since.refl _) _) _) _).step h4))
      replace HB := Lib.hid (HB.out.since (by first | exact h4 | exact (Since.alloc (Since.refl _) _).step h4 | exact (Since.alloc (Since.alloc (Since.refl _) _) _).step h4 | exact (Since.drew (Since.refl _)).step h4 | exact (Since.alloc (Since.alloc (Since.alloc (Since.refl _) _) _) _).step h4))
      replace HV3 := Lib.hid (HV3.out.since (by first | exact h4 | exact (Since.alloc (Since.refl _) _).step h4 | exact (Since.alloc (Since.alloc (Since.refl _) _) _).step h4 | exact (Since.drew (Since.refl _)).step h4 | exact (Since.alloc (Since.alloc (Since.alloc (Since.refl _) _) _) _).step h4))
      replace HS := Lib.hid (HS.out.step (by first | exact h4 | exact (Since.alloc (Since.refl _) _).step h4 | exact (Since.alloc (Since.alloc (Since.refl _) _) _).step h4 | exact (Since.drew (Since.refl _)).step h4 | exact (Since.alloc (Since.alloc (Since.alloc (Since.refl _) _) _) _).step h4))
      clear h4
      go_wp2_with fail
      refine (c5.calls0) ?_
      intro v5 w5 hv5 h5
      have HV5 := Lib.hid hv5
      clear hv5
      replace HA := Lib.hid (HA.out.since (by first | exact h5 | exact (Since.alloc (Since.refl _) _).step h5 | exact (Since.alloc (Since.alloc (Since.refl _) _) _).step h5 | exact (Since.drew (Since.refl _)).step h5 | exact (Since.alloc (Since.alloc (Since.alloc (Since.refl _) _) _) _).step h5))
      replace HB := Lib.hid (HB.out.since (by first | exact h5 | exact (Since.alloc (Since.refl _) _).step h5 | exact (Since.alloc (Since.alloc (Since.refl _) _) _).step h5 | exact (Since.drew (Since.refl _)).step h5 | exact (Since.alloc (Since.alloc (Since.alloc (Since.refl _) _) _) _).step h5))
      replace HV3 := Lib.hid (HV3.out.since (by first | exact h5 | exact (Since.alloc (Since.refl _) _).step h5 | exact (Since.alloc (Since.alloc (Since.refl _) _) _).step h5 | exact (Since.drew (Since.refl _)).step h5 | exact (Since.alloc (Since.alloc (Since.alloc (Since.refl _) _) _) _).step h5))
      replace HS := Lib.hid (HS.out.step (by first | exact h5 | exact (Since.alloc (Since.refl _) _).step h5 | exact (Since.alloc (Since.alloc (Since.refl _) _) _).step h5 | exact (Since.drew (Since.refl _)).step h5 | exact (Since.alloc (Since.alloc (Since.alloc (Since.refl _) _) _) _).step h5))
      clear h5
      go_wp2_with fail
      refine (c6.calls0 HV3.out HA.out) ?_
      intro w6 h6
      replace HA := Lib.hid (HA.out.since (by first | exact h6 | exact (Since.alloc (Since.refl _) _).step h6 | exact (Since.alloc (Since.alloc (Since.refl _) _) _).step h6 | exact (Since.drew (Since.refl _)).step h6 | exact (Since.alloc (Since.alloc (Since.alloc (Since.refl _) _) _) _).step h6))
      replace HB := Lib.hid (HB.out.since (by first | exact h6 | exact (Since.alloc (Since.refl _) _).step h6 | exact (Since.alloc (Since.alloc (Since.refl _) _) _).step h6 | exact (Since.drew (Since.refl _)).step h6 | exact (Since.alloc (Since.alloc (Since.alloc (Since.refl _) _) _) _).step h6))
      replace HV5 := Lib.hid (HV5.out.since (by first | exact h6 | exact (Since.alloc (Since.refl _) _).step h6 | exact (Since.alloc (Since.alloc (Since.refl _) _) _).step h6 | exact (Since.drew (Since.refl _)).step h6 | exact (Since.alloc (Since.alloc (Since.alloc (Since.refl _) _) _) _).step h6))
      replace HS := Lib.hid (HS.out.step (by first | exact h6 | exact (Since.alloc (Since.refl _) _).step h6 | exact (Since.alloc (Since.alloc (Since.refl _) _) _).step h6 | exact (Since.drew (Since.refl _)).step h6 | exact (Since.alloc (Since.alloc (Since.alloc (Since.refl _) _) _) _).step h6))
      clear h6
      go_wp2_with fail
      refine (c6.calls0 HV5.out HA.out) ?_
      intro w7 h7
      replace HA := Lib.hid (HA.out.since (by first | exact h7 | exact (Since.alloc (Since.refl _) _).step h7 | exact (Since.alloc (Since.alloc (Since.refl _) _) _).step h7 | exact (Since.drew (Since.refl _)).step h7 | exact (Since.alloc (Since.alloc (Since.alloc (Since.refl _) _) _) _).step h7))
      replace HB := Lib.hid (HB.out.since (by first | exact h7 | exact (Since.alloc (Since.refl _) _).step h7 | exact (Since.alloc (Since.alloc (Since.refl _) _) _).step h7 | exact (Since.drew (Since.refl _)).step h7 | exact (Since.alloc (Since.alloc (Since.alloc (Since.refl _) _) _) _).step h7))
      replace HS := Lib.hid (HS.out.step (by first | exact h7 | exact (Since.alloc (Since.refl _) _).step h7 | exact (Since.alloc (Since.alloc (Since.refl _) _) _).step h7 | exact (Since.drew (Since.refl _)).step h7 | exact (Since.alloc (Since.alloc (Since.alloc (Since.refl _) _) _) _).step h7))
      clear h7
      go_wp2_with fail
      refine (c20.calls0) ?_
      intro v20 w20 hv20 h20
      have HV20 := Lib.hid hv20
      clear hv20
      replace HS := Lib.hid (HS.out.step (by first | exact h20 | exact (Since.alloc (Since.refl _) _).step h20 | exact (Since.alloc (Since.alloc (Since.refl _) _) _).step h20 | exact (Since.drew (Since.refl _)).step h20 | exact (Since.alloc (Since.alloc (Since.alloc (Since.refl _) _) _) _).step h20))
      clear h20
      go_wp2_with fail
      refine (c21.calls0) ?_
      intro v21 w21 hv21 h21
      have HV21 := Lib.hid hv21
      clear hv21
      replace HS := Lib.hid (HS.out.step (by first | exact h21 | exact (Since.alloc (Since.refl _) _).step h21 | exact (Since.alloc (Since.alloc (Since.refl _) _) _).step h21 | exact (Since.drew (Since.refl _)).step h21 | exact (Since.alloc (Since.alloc (Since.alloc (Since.refl _) _) _) _).step h21))
      clear h21
      go_wp2_with fail
      refine (awake_mak.calls0) ?_
      intro w30 h30
      replace HS := Lib.hid (HS.out.step (by first | exact h30 | exact (Since.alloc (Since.refl _) _).step h30 | exact (Since.alloc (Since.alloc (Since.refl _) _) _).step h30 | exact (Since.drew (Since.refl _)).step h30 | exact (Since.alloc (Since.alloc (Since.alloc (Since.refl _) _) _) _).step h30))
      clear h30
      go_wp2_with fail
      go_ret
      exact ⟨rfl, HS.out⟩
    · have q23 := c23.out rfl
      clear c23
      go_enter Try.func4, Try.ntmps4
      go_wp2_with fail
      refine (c1.calls0 HA.out) ?_
      intro w1 h1
      replace HA := Lib.hid (HA.out.since (by first | exact h1 | exact (Since.alloc (Since.refl _) _).step h1 | exact (Since.alloc (Since.alloc (Since.refl _) _) _).step h1 | exact (Since.drew (Since.refl _)).step h1 | exact (Since.alloc (Since.alloc (Since.alloc (Since.refl _) _) _) _).step h1))
      replace HB := Lib.hid (HB.out.since (by first | exact h1 | exact (Since.alloc (Since.refl _) _).step h1 | exact (Since.alloc (Since.alloc (Since.refl _) _) _).step h1 | exact (Since.drew (Since.refl _)).step h1 | exact (Since.alloc (Since.alloc (Since.alloc (Since.refl _) _) _) _).step h1))
      replace HS := Lib.hid (HS.out.step (by first | exact h1 | exact (Since.alloc (Since.refl _) _).step h1 | exact (Since.alloc (Since.alloc (Since.refl _) _) _).step h1 | exact (Since.drew (Since.refl _)).step h1 | exact (Since.alloc (Since.alloc (Since.alloc (Since.refl _) _) _) _).step h1))
      clear h1
      go_wp2_with fail
      refine (c2.calls0 HB.out) ?_
      intro w2 h2
      replace HA := Lib.hid (HA.out.since (by first | exact h2 | exact (Since.alloc (Since.refl _) _).step h2 | exact (Since.alloc (Since.alloc (Since.refl _) _) _).step h2 | exact (Since.drew (Since.refl _)).step h2 | exact (Since.alloc (Since.alloc (Since.alloc (Since.refl _) _) _) _).step h2))
      replace HB := Lib.hid (HB.out.since (by first | exact h2 | exact (Since.alloc (Since.refl _) _).step h2 | exact (Since.alloc (Since.alloc (Since.refl _) _) _).step h2 | exact (Since.drew (Since.refl _)).step h2 | exact (Since.alloc (Since.alloc (Since.alloc (Since.refl _) _) _) _).step h2))
      replace HS := Lib.hid (HS.out.step (by first | exact h2 | exact (Since.alloc (Since.refl _) _).step h2 | exact (Since.alloc (Since.alloc (Since.refl _) _) _).step h2 | exact (Since.drew (Since.refl _)).step h2 | exact (Since.alloc (Since.alloc (Since.alloc (Since.refl _) _) _) _).step h2))
      clear h2
      go_wp2_with fail
      refine (c3.calls0) ?_
      intro v3 w3 hv3 h3
      have HV3 := Lib.hid hv3
      clear hv3
      replace HA := Lib.hid (HA.out.since (by first | exact h3 | exact (Since.alloc (Since.refl _) _).step h3 | exact (Since.alloc (Since.alloc (Since.refl _) _) _).step h3 | exact (Since.drew (Since.refl _)).step h3 | exact (Since.alloc (Since.alloc (Since.alloc (Since.refl _) _) _) _).step h3))
      replace HB := Lib.hid (HB.out.since (by first | exact h3 | exact (Since.alloc (Since.refl _) _).step h3 | exact (Since.alloc (Since.alloc (Since.refl _) _) _).step h3 | exact (Since.drew (Since.refl _)).step h3 | exact (Since.alloc (Since.alloc (Since.alloc (Since.refl _) _) _) _).step h3))
      replace HS := Lib.hid (HS.out.step (by first | exact h3 | exact (Since.alloc (Since.refl _) _).step h3 | exact (Since.alloc (Since.alloc (Since.refl _) _) _).step h3 | exact (Since.drew (Since.refl _)).step h3 | exact (Since.alloc (Since.alloc (Since.alloc (Since.refl _) _) _) _).step h3))
      clear h3
      go_wp2_with fail
      refine (c4.calls0 HA.out) ?_
      intro w4 h4
      replace HA := Lib.hid (HA.out.since (by first | exact h4 | exact (Since.alloc (Since.refl _) _).step h4 | exact (Since.alloc (Since.alloc (Since.refl _) _) _).step h4 | exact (Since.drew (Since.refl _)).step h4 | exact (Since.alloc (Since.alloc (Since.alloc (Since.refl _) _) _) _).step h4))
      replace HB := Lib.hid (HB.out.since (by first | exact h4 | exact (Since.alloc (Since.refl _) _).step h4 | exact (Since.alloc (Since.alloc (Since.refl _) _) _).step h4 | exact (Since.drew (Since.refl _)).step h4 | exact (Since.alloc (Since.alloc (Since.alloc (Since.refl _) _) _) _).step h4))
      replace HV3 := Lib.hid (HV3.out.since (by first | exact h4 | exact (Since.alloc (Since.refl _) _).step h4 | exact (Since.alloc (Since.alloc (Since.refl _) _) _).step h4 | exact (Since.drew (Since.refl _)).step h4 | exact (Since.alloc (Since.alloc (Since.alloc (Since.refl _) _) _) _).step h4))
      replace HS := Lib.hid (HS.out.step (by first | exact h4 | exact (Since.alloc (Since.refl _) _).step h4 | exact (Since.alloc (Since.alloc (Since.refl _) _) _).step h4 | exact (Since.drew (Since.refl _)).step h4 | exact (Since.alloc (Since.alloc (Since.alloc (Since.refl _) _) _) _).step h4))
      clear h4
      go_wp2_with fail
      refine (c5.calls0) ?_
      intro v5 w5 hv5 h5
      have HV5 := Lib.hid hv5
      clear hv5
      replace HA := Lib.hid (HA.out.since (by first | exact h5 | exact (Since.alloc (Since.refl _) _).step h5 | exact (Since.alloc (Since.alloc (Since.refl _) _) _).step h5 | exact (Since.drew (Since.refl _)).step h5 | exact (Since.alloc (Since.alloc (Since.alloc (Since.refl _) _) _) _).step h5))
      replace HB := Lib.hid (HB.out.since (by first | exact h5 | exact (Since.alloc (Since.refl _) _).step h5 | exact (Since.alloc (Since.alloc (Since.refl _) _) _).step h5 | exact (Since.drew (Since.refl _)).step h5 | exact (Since.alloc (Since.alloc (Since.alloc (Since.refl _) _) _) _).step h5))
      replace HV3 := Lib.hid (HV3.out.since (by first | exact h5 | exact (Since.alloc (Since.refl _) _).step h5 | exact (Since.alloc (Since.alloc (Since.refl _) _) _).step h5 | exact (Since.drew (Since.refl _)).step h5 | exact (Since.alloc (Since.alloc (Since.alloc (Since.refl _) _) _) _).step h5))
      replace HS := Lib.hid (HS.out.step (by first | exact h5 | exact (Since.alloc (Since.refl _) _).step h5 | exact (Since.alloc (Since.alloc (Since.refl _) _) _).step h5 | exact (Since.drew (Since.refl _)).step h5 | exact (Since.alloc (Since.alloc (Since.alloc (Since.refl _) _) _) _).step h5))
      clear h5
      go_wp2_with fail
      refine (c6.calls0 HV3.out HA.out) ?_
      intro w6 h6
      replace HA := Lib.hid (HA.out.since (by first | exact h6 | exact (Since.alloc (Since.refl _) _).step h6 | exact (Since.alloc (Since.alloc (Since.refl _) _) _).step h6 | exact (Since.drew (Since.refl _)).step h6 | exact (Since.alloc (Since.alloc (Since.alloc (Since.refl _) _) _) _).step h6))
      replace HB := Lib.hid (HB.out.since (by first | exact h6 | exact (Since.alloc (Since.refl _) _).step h6 | exact (Since.alloc (Since.alloc (Since.refl _) _) _).step h6 | exact (Since.drew (Since.refl _)).step h6 | exact (Since.alloc (Since.alloc (Since.alloc (Since.refl _) _) _) _).step h6))
      replace HV5 := Lib.hid (HV5.out.since (by first | exact h6 | exact (Since.alloc (Since.refl _) _).step h6 | exact (Since.alloc (Since.alloc (Since.refl _) _) _).step h6 | exact (Since.drew (Since.refl _)).step h6 | exact (Since.alloc (Since.alloc (Since.alloc (Since.refl _) _) _) _).step h6))
      replace HS := Lib.hid (HS.out.step (by first | exact h6 | exact (Since.alloc (Since.refl _) _).step h6 | exact (Since.alloc (Since.alloc (Since.refl _) _) _).step h6 | exact (Since.drew (Since.refl _)).step h6 | exact (Since.alloc (Since.alloc (Since.alloc (Since.refl _) _) _) _).step h6))
      clear h6
      go_wp2_with fail
      refine (c6.calls0 HV5.out HA.out) ?_
      intro w7 h7
      replace HA := Lib.hid (HA.out.since (by first | exact h7 | exact (Since.alloc (Since.refl _) _).step h7 | exact (Since.alloc (Since.alloc (Since.refl _) _) _).step h7 | exact (Since.drew (Since.refl _)).step h7 | exact (Since.alloc (Since.alloc (Since.alloc (Since.refl _) _) _) _).step h7))
      replace HB := Lib.hid (HB.out.since (by first | exact h7 | exact (Since.alloc (Since.refl _) _).step h7 | exact (Since.alloc (Since.alloc (Since.refl _) _) _).step h7 | exact (Since.drew (Since.refl _)).step h7 | exact (Since.alloc (Since.alloc (Since.alloc (Since.refl _) _) _) _).step h7))
      replace HS := Lib.hid (HS.out.step (by first | exact h7 | exact (Since.alloc (Since.refl _) _).step h7 | exact (Since.alloc (Since.alloc (Since.refl _) _) _).step h7 | exact (Since.drew (Since.refl _)).step h7 | exact (Since.alloc (Since.alloc (Since.alloc (Since.refl _) _) _) _).step h7))
      clear h7
      go_wp2_with fail
      refine (c20.calls0) ?_
      intro v20 w20 hv20 h20
      have HV20 := Lib.hid hv20
      clear hv20
      replace HS := Lib.hid (HS.out.step (by first | exact h20 | exact (Since.alloc (Since.refl _) _).step h20 | exact (Since.alloc (Since.alloc (Since.refl _) _) _).step h20 | exact (Since.drew (Since.refl _)).step h20 | exact (Since.alloc (Since.alloc (Since.alloc (Since.refl _) _) _) _).step h20))
      clear h20
      go_wp2_with fail
      refine (c21.calls0) ?_
      intro v21 w21 hv21 h21
      have HV21 := Lib.hid hv21
      clear hv21
      replace HS := Lib.hid (HS.out.step (by first | exact h21 | exact (Since.alloc (Since.refl _) _).step h21 | exact (Since.alloc (Since.alloc (Since.refl _) _) _).step h21 | exact (Since.drew (Since.refl _)).step h21 | exact (Since.alloc (Since.alloc (Since.alloc (Since.refl _) _) _) _).step h21))
      clear h21
      go_wp2_with fail
      refine (q23.calls0 HV21.out) ?_
      intro w22 h22
      replace HS := Lib.hid (HS.out.step (by first | exact h22 | exact (Since.alloc (Since.refl _) _).step h22 | exact (Since.alloc (Since.alloc (Since.refl _) _) _).step h22 | exact (Since.drew (Since.refl _)).step h22 | exact (Since.alloc (Since.alloc (Since.alloc (Since.refl _) _) _) _).step h22))
      clear h22
      go_wp2_with fail
      refine (awake_mak.calls0) ?_
      intro w30 h30
      replace HS := Lib.hid (HS.out.step (by first | exact h30 | exact (Since.alloc (Since.refl _) _).step h30 | exact (Since.alloc (Since.alloc (Since.refl _) _) _).step h30 | exact (Since.drew (Since.refl _)).step h30 | exact (Since.alloc (Since.alloc (Since.alloc (Since.refl _) _) _) _).step h30))
      clear h30
      go_wp2_with fail
      go_ret
      exact ⟨rfl, HS.out⟩
  · have q22 := c22.out rfl
    clear c22
    cases f2
    · clear c23
      go_enter Try.func4, Try.ntmps4
      go_wp2_with fail
      refine (c1.calls0 HA.out) ?_
      intro w1 h1
      replace HA := Lib.hid (HA.out.since (by first | exact h1 | exact (Since.alloc (Since.refl _) _).step h1 | exact (Since.alloc (Since.alloc (Since.refl _) _) _).step h1 | exact (Since.drew (Since.refl _)).step h1 | exact (Since.alloc (Since.alloc (Since.alloc (Since.refl _) _) _) _).step h1))
      replace HB := Lib.hid (HB.out.since (by first | exact h1 | exact (Since.alloc (Since.refl _) _).step h1 | exact (Since.alloc (Since.alloc (Since.refl _) _) _).step h1 | exact (Since.drew (Since.refl _)).step h1 | exact (Since.alloc (Since.alloc (Since.alloc (Since.refl _) _) _) _).step h1))
      replace HS := Lib.hid (HS.out.step (by first | exact h1 | exact (Since.alloc (Since.refl _) _).step h1 | exact (Since.alloc (Since.alloc (Since.refl _) _) _).step h1 | exact (Since.drew (Since.refl _)).step h1 | exact (Since.alloc (Since.alloc (Since.alloc (Since.refl _) _) _) _).step h1))
      clear h1
      go_wp2_with fail
      refine (c2.calls0 HB.out) ?_
      intro w2 h2
      replace HA := Lib.hid (HA.out.since (by first | exact h2 | exact (Since.alloc (Since.refl _) _).step h2 | exact (Since.alloc (Since.alloc (Since.refl _) _) _).step h2 | exact (Since.drew (Since.refl _)).step h2 | exact (Since.alloc (Since.alloc (Since.alloc (Since.refl _) _) _) _).step h2))
      replace HB := Lib.hid (HB.out.since (by first | exact h2 | exact (Since.alloc (Since.refl _) _).step h2 | exact (Since.alloc (Since.alloc (Since.refl _) _) _).step h2 | exact (Since.drew (Since.refl _)).step h2 | exact (Since.alloc (Since.alloc (Since.alloc (Since.refl _) _) _) _).step h2))
      replace HS := Lib.hid (HS.out.step (by first | exact h2 | exact (Since.alloc (Since.refl _) _).step h2 | exact (Since.alloc (Since.alloc (Since.refl _) _) _).step h2 | exact (Since.drew (Since.refl _)).step h2 | exact (Since.alloc (Since.alloc (Since.alloc (Since.refl _) _) _) _).step h2))
      clear h2
      go_wp2_with fail
      refine (c3.calls0) ?_
      intro v3 w3 hv3 h3
      have HV3 := Lib.hid hv3
      clear hv3
      replace HA := Lib.hid (HA.out.since (by first | exact h3 | exact (Since.alloc (Since.refl _) _).step h3 | exact (Since.alloc (Since.alloc (Since.refl _) _) _).step h3 | exact (Since.drew (Since.refl _)).step h3 | exact (Since.alloc (Since.alloc (Since.alloc (Since.refl _) _) _) _).step h3))
      replace HB := Lib.hid (HB.out.since (by first | exact h3 | exact (Since.alloc (Since.refl _) _).step h3 | exact (Since.alloc (Since.alloc (Since.refl _) _) _).step h3 | exact (Since.drew (Since.refl _)).step h3 | exact (Since.alloc (Since.alloc (Since.alloc (Since.refl _) _) _) _).step h3))
      replace HS := Lib.hid (HS.out.step (by first | exact h3 | exact (Since.alloc (Since.refl _) _).step h3 | exact (Since.alloc (Since.alloc (Since.refl _) _) _).step h3 | exact (Since.drew (Since.refl _)).step h3 | exact (Since.alloc (Since.alloc (Since.alloc (Since.refl _) _) _) _).step h3))
      clear h3
      go_wp2_with fail
      refine (c4.calls0 HA.out) ?_
      intro w4 h4
      replace HA := Lib.hid (HA.out.since (by first | exact h4 | exact (Since.alloc (Since.refl _) _).step h4 | exact (Since.alloc (Since.alloc (Since.refl _) _) _).step h4 | exact (Since.drew (Since.refl _)).step h4 | exact (Since.alloc (Since.alloc (Since.alloc (Since.refl _) _) _) _).step h4))
      replace HB := Lib.hid (HB.out.since (by first | exact h4 | exact (Since.alloc (Since.refl _) _).step h4 | exact (Since.alloc (Since.alloc (Since.refl _) _) _).step h4 | exact (Since.drew (Since.refl _)).step h4 | exact (Since.alloc (Since.alloc (Since.alloc (Since.refl _) _) _) _).step h4))
      replace HV3 := Lib.hid (HV3.out.since (by first | exact h4 | exact (Since.alloc (Since.refl _) _).step h4 | exact (Since.alloc (Since.alloc (Since.refl _) _) _).step h4 | exact (Since.drew (Since.refl _)).step h4 | exact (Since.alloc (Since.alloc (Since.alloc (Since.refl _) _) _) _).step h4))
      replace HS := Lib.hid (HS.out.step (by first | exact h4 | exact (Since.alloc (Since.refl _) _).step h4 | exact (Since.alloc (Since.alloc (Since.refl _) _) _).step h4 | exact (Since.drew (Since.refl _)).step h4 | exact (Since.alloc (Since.alloc (Since.alloc (Since.refl _) _) _) _).step h4))
      clear h4
      go_wp2_with fail
      refine (c5.calls0) ?_
      intro v5 w5 hv5 h5
      have HV5 := Lib.hid hv5
      clear hv5
      replace HA := Lib.hid (HA.out.since (by first | exact h5 | exact (Since.alloc (Since.refl _) _).step h5 | exact (Since.alloc (Since.alloc (Since.refl _) _) _).step h5 | exact (Since.drew (Since.refl _)).step h5 | exact (Since.alloc (Since.alloc (Since.alloc (Since.refl _) _) _) _).step h5))
      replace HB := Lib.hid (HB.out.since (by first | exact h5 | exact (Since.alloc (Since.refl _) _).step h5 | exact (Since.alloc (Since.alloc (Since.refl _) _) _).step h5 | exact (Since.drew (Since.refl _)).step h5 | exact (Since.alloc (Since.alloc (Since.alloc (Since.refl _) _) _) _).step h5))
      replace HV3 := Lib.hid (HV3.out.since (by first | exact h5 | exact (Since.alloc (Since.refl _) _).step h5 | exact (Since.alloc (Since.alloc (Since.refl _) _) _).step h5 | exact (Since.drew (Since.refl _)).step h5 | exact (Since.alloc (Since.alloc (Since.alloc (Since.refl _) _) _) _).step h5))
      replace HS := Lib.hid (HS.out.step (by first | exact h5 | exact (Since.alloc (Since.refl _) _).step h5 | exact (Since.alloc (Since.alloc (Since.refl _) _) _).step h5 | exact (Since.drew (Since.refl _)).step h5 | exact (Since.alloc (Since.alloc (Since.alloc (Since.refl _) _) _) _).step h5))
      clear h5
      go_wp2_with fail
      refine (c6.calls0 HV3.out HA.out) ?_
      intro w6 h6
      replace HA := Lib.hid (HA.out.since (by first | exact h6 | exact (Since.alloc (Since.refl _) _).step h6 | exact (Since.alloc (Since.alloc (Since.refl _) _) _).step h6 | exact (Since.drew (Since.refl _)).step h6 | exact (Since.alloc (Since.alloc (Since.alloc (Since.refl _) _) _) _).step h6))
      replace HB := Lib.hid (HB.out.since (by first | exact h6 | exact (Since.alloc (Since.refl _) _).step h6 | exact (Since.alloc (Since.alloc (Since.refl _) _) _).step h6 | exact (Since.drew (Since.refl _)).step h6 | exact (Since.alloc (Since.alloc (Since.alloc (Since.refl _) _) _) _).step h6))
      replace HV5 := Lib.hid (HV5.out.since (by first | exact h6 | exact (Since.alloc (Since.refl _) _).step h6 | exact (Since.alloc (Since.alloc (Since.refl _) _) _).step h6 | exact (Since.drew (Since.refl _)).step h6 | exact (Since.alloc (Since.alloc (Since.alloc (Since.refl _) _) _) _).step h6))
      replace HS := Lib.hid (HS.out.step (by first | exact h6 | exact (Since.alloc (Since.refl _) _).step h6 | exact (Since.alloc (Since.alloc (Since.refl _) _) _).step h6 | exact (Since.drew (Since.refl _)).step h6 | exact (Since.alloc (Since.alloc (Since.alloc (Since.refl _) _) _) _).step h6))
      clear h6
      go_wp2_with fail
      refine (c6.calls0 HV5.out HA.out) ?_
      intro w7 h7
      replace HA := Lib.hid (HA.out.since (by first | exact h7 | exact (Since.alloc (Since.refl _) _).step h7 | exact (Since.alloc (Since.alloc (Since.refl _) _) _).step h7 | exact (Since.drew (Since.refl _)).step h7 | exact (Since.alloc (Since.alloc (Since.alloc (Since.refl _) _) _) _).step h7))
      replace HB := Lib.hid (HB.out.since (by first | exact h7 | exact (Since.alloc (Since.refl _) _).step h7 | exact (Since.alloc (Since.alloc (Since.refl _) _) _).step h7 | exact (Since.drew (Since.refl _)).step h7 | exact (Since.alloc (Since.alloc (Since.alloc (Since.refl _) _) _) _).step h7))
      replace HS := Lib.hid (HS.out.step (by first | exact h7 | exact (Since.alloc (Since.refl _) _).step h7 | exact (Since.alloc (Since.alloc (Since.refl _) _) _).step h7 | exact (Since.drew (Since.refl _)).step h7 | exact (Since.alloc (Since.alloc (Since.alloc (Since.refl _) _) _) _).step h7))
      clear h7
      go_wp2_with fail
      refine (c20.calls0) ?_
      intro v20 w20 hv20 h20
      have HV20 := Lib.hid hv20
      clear hv20
      replace HS := Lib.hid (HS.out.step (by first | exact h20 | exact (Since.alloc (Since.refl _) _).step h20 | exact (Since.alloc (Since.alloc (Since.refl _) _) _).step h20 | exact (Since.drew (Since.refl _)).step h20 | exact (Since.alloc (Since.alloc (Since.alloc (Since.refl _) _) _) _).step h20))
      clear h20
      go_wp2_with fail
      refine (q22.calls0 HV20.out) ?_
      intro w23 h23
      replace HS := Lib.hid (HS.out.step (by first | exact h23 | exact (Since.alloc (Since.refl _) _).step h23 | exact (Since.alloc (Since.alloc (Since.refl _) _) _).step h23 | exact (Since.drew (Since.refl _)).step h23 | exact (Since.alloc (Since.alloc (Since.alloc (Since.refl _) _) _) _).step h23))
      clear h23
      go_wp2_with fail
      refine (c21.calls0) ?_
      intro v21 w21 hv21 h21
      have HV21 := Lib.hid hv21
      clear hv21
      replace HS := Lib.hid (HS.out.step (by first | exact h21 | exact (Since.alloc (Since.refl _) _).step h21 | exact (Since.alloc (Since.alloc (Since.refl _) _) _).step h21 | exact (Since.drew (Since.refl _)).step h21 | exact (Since.alloc (Since.alloc (Since.alloc (Since.refl _) _) _) _).step h21))
      clear h21
      go_wp2_with fail
      refine (awake_mak.calls0) ?_
      intro w30 h30
      replace HS := Lib.hid (HS.out.step (by first | exact h30 | exact (Since.alloc (Since.refl _) _).step h30 | exact (Since.alloc (Since.alloc (Since.refl _) _) _).step h30 | exact (Since.drew (Since.refl _)).step h30 | exact (Since.alloc (Since.alloc (Since.alloc (Since.refl _) _) _) _).step h30))
      clear h30
      go_wp2_with fail
      go_ret
      exact ⟨rfl, HS.out⟩
    · have q23 := c23.out rfl
      clear c23
      go_enter Try.func4, Try.ntmps4
      go_wp2_with fail
      refine (c1.calls0 HA.out) ?_
      intro w1 h1
      replace HA := Lib.hid (HA.out.since (by first | exact h1 | exact (Since.alloc (Since.refl _) _).step h1 | exact (Since.alloc (Since.alloc (Since.refl _) _) _).step h1 | exact (Since.drew (Since.refl _)).step h1 | exact (Since.alloc (Since.alloc (Since.alloc (Since.refl _) _) _) _).step h1))
      replace HB := Lib.hid (HB.out.since (by first | exact h1 | exact (Since.alloc (Since.refl _) _).step h1 | exact (Since.alloc (Since.alloc (Since.refl _) _) _).step h1 | exact (Since.drew (Since.refl _)).step h1 | exact (Since.alloc (Since.alloc (Since.alloc (Since.refl _) _) _) _).step h1))
      replace HS := Lib.hid (HS.out.step (by first | exact h1 | exact (Since.alloc (Since.refl _) _).step h1 | exact (Since.alloc (Since.alloc (Since.refl _) _) _).step h1 | exact (Since.drew (Since.refl _)).step h1 | exact (Since.alloc (Since.alloc (Since.alloc (Since.refl _) _) _) _).step h1))
      clear h1
      go_wp2_with fail
      refine (c2.calls0 HB.out) ?_
      intro w2 h2
      replace HA := Lib.hid (HA.out.since (by first | exact h2 | exact (Since.alloc (Since.refl _) _).step h2 | exact (Since.alloc (Since.alloc (Since.refl _) _) _).step h2 | exact (Since.drew (Since.refl _)).step h2 | exact (Since.alloc (Since.alloc (Since.alloc (Since.refl _) _) _) _).step h2))
      replace HB := Lib.hid (HB.out.since (by first | exact h2 | exact (Since.alloc (Since.refl _) _).step h2 | exact (Since.alloc (Since.alloc (Since.refl _) _) _).step h2 | exact (Since.drew (Since.refl _)).step h2 | exact (Since.alloc (Since.alloc (Since.alloc (Since.refl _) _) _) _).step h2))
      replace HS := Lib.hid (HS.out.step (by first | exact h2 | exact (Since.alloc (Since.refl _) _).step h2 | exact (Since.alloc (Since.alloc (Since.refl _) _) _).step h2 | exact (Since.drew (Since.refl _)).step h2 | exact (Since.alloc (Since.alloc (Since.alloc (Since.refl _) _) _) _).step h2))
      clear h2
      go_wp2_with fail
      refine (c3.calls0) ?_
      intro v3 w3 hv3 h3
      have HV3 := Lib.hid hv3
      clear hv3
      replace HA := Lib.hid (HA.out.since (by first | exact h3 | exact (Since.alloc (Since.refl _) _).step h3 | exact (Since.alloc (Since.alloc (Since.refl _) _) _).step h3 | exact (Since.drew (Since.refl _)).step h3 | exact (Since.alloc (Since.alloc (Since.alloc (Since.refl _) _) _) _).step h3))
      replace HB := Lib.hid (HB.out.since (by first | exact h3 | exact (Since.alloc (Since.refl _) _).step h3 | exact (Since.alloc (Since.alloc (Since.refl _) _) _).step h3 | exact (Since.drew (Since.refl _)).step h3 | exact (Since.alloc (Since.alloc (Since.alloc (Since.refl _) _) _) _).step h3))
      replace HS := Lib.hid (HS.out.step (by first | exact h3 | exact (Since.alloc (Since.refl _) _).step h3 | exact (Since.alloc (Since.alloc (Since.refl _) _) _).step h3 | exact (Since.drew (Since.refl _)).step h3 | exact (Since.alloc (Since.alloc (Since.alloc (Since.refl _) _) _) _).step h3))
      clear h3
      go_wp2_with fail
      refine (c4.calls0 HA.out) ?_
      intro w4 h4
      replace HA := Lib.hid (HA.out.since (by first | exact h4 | exact (Since.alloc (Since.refl _) _).step h4 | exact (Since.alloc (Since.alloc (Since.refl _) _) _).step h4 | exact (Since.drew (Since.refl _)).step h4 | exact (Since.alloc (Since.alloc (Since.alloc (Since.refl _) _) _) _).step h4))
      replace HB := Lib.hid (HB.out.since (by first | exact h4 | exact (Since.alloc (Since.refl _) _).step h4 | exact (Since.alloc (Since.alloc (Since.refl _) _) _).step h4 | exact (Since.drew (Since.refl _)).step h4 | exact (Since.alloc (Since.alloc (Since.alloc (Since.refl _) _) _) _).step h4))
      replace HV3 := Lib.hid (HV3.out.since (by first | exact h4 | exact (Since.alloc (Since.refl _) _).step h4 | exact (Since.alloc (Since.alloc (Since.refl _) _) _).step h4 | exact (Since.drew (Since.refl _)).step h4 | exact (Since.alloc (Since.alloc (Since.alloc (Since.refl _) _) _) _).step h4))
      replace HS := Lib.hid (HS.out.step (by first | exact h4 | exact (Since.alloc (Since.refl _) _).step h4 | exact (Since.alloc (Since.alloc (Since.refl _) _) _).step h4 | exact (Since.drew (Since.refl _)).step h4 | exact (Since.alloc (Since.alloc (Since.alloc (Since.refl _) _) _) _).step h4))
      clear h4
      go_wp2_with fail
      refine (c5.calls0) ?_
      intro v5 w5 hv5 h5
      have HV5 := Lib.hid hv5
      clear hv5
      replace HA := Lib.hid (HA.out.since (by first | exact h5 | exact (Since.alloc (Since.refl _) _).step h5 | exact (Since.alloc (Since.alloc (Since.refl _) _) _).step h5 | exact (Since.drew (Since.refl _)).step h5 | exact (Since.alloc (Since.alloc (Since.alloc (Since.refl _) _) _) _).step h5))
      replace HB := Lib.hid (HB.out.since (by first | exact h5 | exact (Since.alloc (Since.refl _) _).step h5 | exact (Since.alloc (Since.alloc (Since.refl _) _) _).step h5 | exact (Since.drew (Since.refl _)).step h5 | exact (Since.alloc (Since.alloc (Since.alloc (Since.refl _) _) _) _).step h5))
      replace HV3 := Lib.hid (HV3.out.since (by first | exact h5 | exact (Since.alloc (Since.refl _) _).step h5 | exact (Since.alloc (Since.alloc (Since.refl _) _) _).step h5 | exact (Since.drew (Since.refl _)).step h5 | exact (Since.alloc (Since.alloc (Since.alloc (Since.refl _) _) _) _).step h5))
      replace HS := Lib.hid (HS.out.step (by first | exact h5 | exact (Since.alloc (Since.refl _) _).step h5 | exact (Since.alloc (Since.alloc (Since.refl _) _) _).step h5 | exact (Since.drew (Since.refl _)).step h5 | exact (Since.alloc (Since.alloc (Since.alloc (Since.refl _) _) _) _).step h5))
      clear h5
      go_wp2_with fail
      refine (c6.calls0 HV3.out HA.out) ?_
      intro w6 h6
      replace HA := Lib.hid (HA.out.since (by first | exact h6 | exact (Since.alloc (Since.refl _) _).step h6 | exact (Since.alloc (Since.alloc (Since.refl _) _) _).step h6 | exact (Since.drew (Since.refl _)).step h6 | exact (Since.alloc (Since.alloc (Since.alloc (Since.refl _) _) _) _).step h6))
      replace HB := Lib.hid (HB.out.since (by first | exact h6 | exact (Since.alloc (Since.refl _) _).step h6 | exact (Since.alloc (Since.alloc (Since.refl _) _) _).step h6 | exact (Since.drew (Since.refl _)).step h6 | exact (Since.alloc (Since.alloc (Since.alloc (Since.refl _) _) _) _).step h6))
      replace HV5 := Lib.hid (HV5.out.since (by first | exact h6 | exact (Since.alloc (Since.refl _) _).step h6 | exact (Since.alloc (Since.alloc (Since.refl _) _) _).step h6 | exact (Since.drew (Since.refl _)).step h6 | exact (Since.alloc (Since.alloc (Since.alloc (Since.refl _) _) _) _).step h6))
      replace HS := Lib.hid (HS.out.step (by first | exact h6 | exact (Since.alloc (Since.refl _) _).step h6 | exact (Since.alloc (Since.alloc (Since.refl _) _) _).step h6 | exact (Since.drew (Since.refl _)).step h6 | exact (Since.alloc (Since.alloc (Since.alloc (Since.refl _) _) _) _).step h6))
      clear h6
      go_wp2_with fail
      refine (c6.calls0 HV5.out HA.out) ?_
      intro w7 h7
      replace HA := Lib.hid (HA.out.since (by first | exact h7 | exact (Since.alloc (Since.refl _) _).step h7 | exact (Since.alloc (Since.alloc (Since.refl _) _) _).step h7 | exact (Since.drew (Since.refl _)).step h7 | exact (Since.alloc (Since.alloc (Since.alloc (Since.refl _) _) _) _).step h7))
      replace HB := Lib.hid (HB.out.since (by first | exact h7 | exact (Since.alloc (Since.refl _) _).step h7 | exact (Since.alloc (Since.alloc (Since.refl _) _) _).step h7 | exact (Since.drew (Since.refl _)).step h7 | exact (Since.alloc (Since.alloc (Since.alloc (Since.refl _) _) _) _).step h7))
      replace HS := Lib.hid (HS.out.step (by first | exact h7 | exact (Since.alloc (Since.refl _) _).step h7 | exact (Since.alloc (Since.alloc (Since.refl _) _) _).step h7 | exact (Since.drew (Since.refl _)).step h7 | exact (Since.alloc (Since.alloc (Since.alloc (Since.refl _) _) _) _).step h7))
      clear h7
      go_wp2_with fail
      refine (c20.calls0) ?_
      intro v20 w20 hv20 h20
      have HV20 := Lib.hid hv20
      clear hv20
      replace HS := Lib.hid (HS.out.step (by first | exact h20 | exact (Since.alloc (Since.refl _) _).step h20 | exact (Since.alloc (Since.alloc (Since.refl _) _) _).step h20 | exact (Since.drew (Since.refl _)).step h20 | exact (Since.alloc (Since.alloc (Since.alloc (Since.refl _) _) _) _).step h20))
      clear h20
      go_wp2_with fail
      refine (q22.calls0 HV20.out) ?_
      intro w23 h23
      replace HS := Lib.hid (HS.out.step (by first | exact h23 | exact (Since.alloc (Since.refl _) _).step h23 | exact (Since.alloc (Since.alloc (Since.refl _) _) _).step h23 | exact (Since.drew (Since.refl _)).step h23 | exact (Since.alloc (Since.alloc (Since.alloc (Since.refl _) _) _) _).step h23))
      clear h23
      go_wp2_with fail
      refine (c21.calls0) ?_
      intro v21 w21 hv21 h21
      have HV21 := Lib.hid hv21
      clear hv21
      replace HS := Lib.hid (HS.out.step (by first | exact h21 | exact (Since.alloc (Since.refl _) _).step h21 | exact (Since.alloc (Since.alloc (Since.refl _) _) _).step h21 | exact (Since.drew (Since.refl _)).step h21 | exact (Since.alloc (Since.alloc (Since.alloc (Since.refl _) _) _) _).step h21))
      clear h21
      go_wp2_with fail
      refine (q23.calls0 HV21.out) ?_
      intro w22 h22
      replace HS := Lib.hid (HS.out.step (by first | exact h22 | exact (Since.alloc (Since.refl _) _).step h22 | exact (Since.alloc (Since.alloc (Since.refl _) _) _).step h22 | exact (Since.drew (Since.refl _)).step h22 | exact (Since.alloc (Since.alloc (Since.alloc (Since.refl _) _) _) _).step h22))
      clear h22
      go_wp2_with fail
      refine (awake_mak.calls0) ?_
      intro w30 h30
      replace HS := Lib.hid (HS.out.step (by first | exact h30 | exact (Since.alloc (Since.refl _) _).step h30 | exact (Since.alloc (Since.alloc (Since.refl _) _) _).step h30 | exact (Since.drew (Since.refl _)).step h30 | exact (Since.alloc (Since.alloc (Since.alloc (Since.refl _) _) _) _).step h30))
      clear h30
      go_wp2_with fail
      go_ret
      exact ⟨rfl, HS.out⟩
set_option maxRecDepth 100000 in
set_option maxHeartbeats 8000000 in
theorem core_both (w : World) (A0 A1 : Option Addr) (n m d0 d1 : Nat) (a b : List Int) (c t : ByteArray) (ha : IntsS w (.slice A0 n d0) a) (hb : IntsS w (.slice A1 m d1) b) (l0 : (n : Int) ≤ 60) (l1 : (m : Int) ≤ 60) (l2 : (c.size : Int) ≤ 200) (l3 : (t.size : Int) ≤ 200)
    (X Y S : ByteArray) (f1 f2 e : Bool) (C T : List Int)
    (c1 : RdI 16 a (.tuple #[.string X, .bool true])) (c2 : RdI 16 b (.tuple #[.string Y, .bool true])) (he : (X.toList == Y.toList) = e)
    (c3 : MkI 18 #[.string X] a true) (c4 : RdI 27 a (.string S)) (c5 : MkI 25 #[.string S] a true) (c6 : RdII 22 a a (.bool true))
    (c7 : RdII 22 a b (.bool e))
    (c20 : MkI 18 #[.string c] C f1) (c21 : MkI 25 #[.string t] T f2)
    (c22 : Hid (f1 = true → RdI 16 C (.tuple #[.string c, .bool true]))) (c23 : Hid (f2 = true → RdI 27 T (.string t))) :
    Calls Try.prog 4 #[.slice A0 n d0, .slice A1 m d1, .string c, .string t] w fun x w' => x = .returned (.bool true) ∧ Since w w' := by
  have HS := Lib.hid (Since.refl w)
  have HA := Lib.hid ha
  have HB := Lib.hid hb
  have t1 : decide ((60 : Int) < (n : Int)) = false := decide_eq_false (by omega)
  have t2 : decide ((60 : Int) < (m : Int)) = false := decide_eq_false (by omega)
  have t3 : decide ((200 : Int) < (c.size : Int)) = false := decide_eq_false (by omega)
  have t4 : decide ((200 : Int) < (t.size : Int)) = false := decide_eq_false (by omega)
  clear ha hb
  cases e
  all_goals
    cases f1
    · clear c22
      cases f2
      · clear c23
        go_enter Try.func4, Try.ntmps4
        go_wp2_with fail
        refine (c1.calls0 HA.out) ?_
        intro w1 h1
        replace HA := Lib.hid (HA.out.since (by first | exact h1 | exact (Since.alloc (Since.refl _) _).step h1 | exact (Since.alloc (Since.alloc (Since.refl _) _) _).step h1 | exact (Since.drew (Since.refl _)).step h1 | exact (Since.alloc (Since.alloc (Since.alloc (Since.refl _) _) _) _).step h1))
        replace HB := Lib.hid (HB.out.since (by first | exact h1 | exact (Since.alloc (Since.refl _) _).step h1 | exact (Since.alloc (Since.alloc (Since.refl _) _) _).step h1 | exact (Since.drew (Since.refl _)).step h1 | exact (Since.alloc (Since.alloc (Since.alloc (Since.refl _) _) _) _).step h1))
        replace HS := Lib.hid (HS.out.step (by first | exact h1 | exact (Since.alloc (Since.refl _) _).step h1 | exact (Since.alloc (Since.alloc (Since.refl _) _) _).step h1 | exact (Since.drew (Since.refl _)).step h1 | exact (Since.alloc (Since.alloc (Since.alloc (Since.refl _) _) _) _).step h1))
        clear h1
        go_wp2_with fail
        refine (c2.calls0 HB.out) ?_
        intro w2 h2
        replace HA := Lib.hid (HA.out.since (by first | exact h2 | exact (Since.alloc (Since.refl _) _).step h2 | exact (Since.alloc (Since.alloc (Since.refl _) _) _).step h2 | exact (Since.drew (Since.refl _)).step h2 | exact (Since.alloc (Since.alloc (Since.alloc (Since.refl _) _) _) _).step h2))
        replace HB := Lib.hid (HB.out.since (by first | exact h2 | exact (Since.alloc (Since.refl _) _).step h2 | exact (Since.alloc (Since.alloc (Since.refl _) _) _).step h2 | exact (Since.drew (Since.refl _)).step h2 | exact (Since.alloc (Since.alloc (Since.alloc (Since.refl _) _) _) _).step h2))
        replace HS := Lib.hid (HS.out.step (by first | exact h2 | exact (Since.alloc (Since.refl _) _).step h2 | exact (Since.alloc (Since.alloc (Since.refl _) _) _).step h2 | exact (Since.drew (Since.refl _)).step h2 | exact (Since.alloc (Since.alloc (Since.alloc (Since.refl _) _) _) _).step h2))
        clear h2
        go_wp2_with fail
        refine (c3.calls0) ?_
        intro v3 w3 hv3 h3
        have HV3 := Lib.hid hv3
        clear hv3
        replace HA := Lib.hid (HA.out.since (by first | exact h3 | exact (Since.alloc (Since.refl _) _).step h3 | exact (Since.alloc (Since.alloc (Since.refl _) _) _).step h3 | exact (Since.drew (Since.refl _)).step h3 | exact (Since.alloc (Since.alloc (Since.alloc (Since.refl _) _) _) _).step h3))
        replace HB := Lib.hid (HB.out.since (by first | exact h3 | exact (Since.alloc (Since.refl _) _).step h3 | exact (Since.alloc (Since.alloc (Since.refl _) _) _).step h3 | exact (Since.drew (Since.refl _)).step h3 | exact (Since.alloc (Since.alloc (Since.alloc (Since.refl _) _) _) _).step h3))
        replace HS := Lib.hid (HS.out.step (by first | exact h3 | exact (Since.alloc (Since.refl _) _).step h3 | exact (Since.alloc (Since.alloc (Since.refl _) _) _).step h3 | exact (Since.drew (Since.refl _)).step h3 | exact (Since.alloc (Since.alloc (Since.alloc (Since.refl _) _) _) _).step h3))
        clear h3
        go_wp2_with fail
        refine (c4.calls0 HA.out) ?_
        intro w4 h4
        replace HA := Lib.hid (HA.out.since (by first | exact h4 | exact (Since.alloc (Since.refl _) _).step h4 | exact (Since.alloc (Since.alloc (Since.refl _) _) _).step h4 | exact (Since.drew (Since.refl _)).step h4 | exact (Since.alloc (Since.alloc (Since.alloc (Since.refl _) _) _) _).step h4))
        replace HB := Lib.hid (HB.out.since (by first | exact h4 | exact (Since.alloc (Since.refl _) _).step h4 | exact (Since.alloc (Since.alloc (Since.refl _) _) _).step h4 | exact (Since.drew (Since.refl _)).step h4 | exact (Since.alloc (Since.alloc (Since.alloc (Since.refl _) _) _) _).step h4))
        replace HV3 := Lib.hid (HV3.out.since (by first | exact h4 | exact (Since.alloc (Since.refl _) _).step h4 | exact (Since.alloc (Since.alloc (Since.refl _) _) _).step h4 | exact (Since.drew (Since.refl _)).step h4 | exact (Since.alloc (Since.alloc (Since.alloc (Since.refl _) _) _) _).step h4))
        replace HS := Lib.hid (HS.out.step (by first | exact h4 | exact (Since.alloc (Since.refl _) _).step h4 | exact (Since.alloc (Since.alloc (Since.refl _) _) _).step h4 | exact (Since.drew (Since.refl _)).step h4 | exact (Since.alloc (Since.alloc (Since.alloc (Since.refl _) _) _) _).step h4))
        clear h4
        go_wp2_with fail
        refine (c5.calls0) ?_
        intro v5 w5 hv5 h5
        have HV5 := Lib.hid hv5
        clear hv5
        replace HA := Lib.hid (HA.out.since (by first | exact h5 | exact (Since.alloc (Since.refl _) _).step h5 | exact (Since.alloc (Since.alloc (Since.refl _) _) _).step h5 | exact (Since.drew (Since.refl _)).step h5 | exact (Since.alloc (Since.alloc (Since.alloc (Since.refl _) _) _) _).step h5))
        replace HB := Lib.hid (HB.out.since (by first | exact h5 | exact (Since.alloc (Since.refl _) _).step h5 | exact (Since.alloc (Since.alloc (Since.refl _) _) _).step h5 | exact (Since.drew (Since.refl _)).step h5 | exact (Since.alloc (Since.alloc (Since.alloc (Since.refl _) _) _) _).step h5))
        replace HV3 := Lib.hid (HV3.out.since (by first | exact h5 | exact (Since.alloc (Since.refl _) _).step h5 | exact (Since.alloc (Since.alloc (Since.refl _) _) _).step h5 | exact (Since.drew (Since.refl _)).step h5 | exact (Since.alloc (Since.alloc (Since.alloc (Since.refl _) _) _) _).step h5))
        replace HS := Lib.hid (HS.out.step (by first | exact h5 | exact (Since.alloc (Since.refl _) _).step h5 | exact (Since.alloc (Since.alloc (Since.refl _) _) _).step h5 | exact (Since.drew (Since.refl _)).step h5 | exact (Since.alloc (Since.alloc (Since.alloc (Since.refl _) _) _) _).step h5))
        clear h5
        go_wp2_with fail
        refine (c6.calls0 HV3.out HA.out) ?_
        intro w6 h6
        replace HA := Lib.hid (HA.out.since (by first | exact h6 | exact (Since.alloc (Since.refl _) _).step h6 | exact (Since.alloc (Since.alloc (Since.refl _) _) _).step h6 | exact (Since.drew (Since.refl _)).step h6 | exact (Since.alloc (Since.alloc (Since.alloc (Since.refl _) _) _) _).step h6))
        replace HB := Lib.hid (HB.out.since (by first | exact h6 | exact (Since.alloc (Since.refl _) _).step h6 | exact (Since.alloc (Since.alloc (Since.refl _) _) _).step h6 | exact (Since.drew (Since.refl _)).step h6 | exact (Since.alloc (Since.alloc (Since.alloc (Since.refl _) _) _) _).step h6))
        replace HV5 := Lib.hid (HV5.out.since (by first | exact h6 | exact (Since.alloc (Since.refl _) _).step h6 | exact (Since.alloc (Since.alloc (Since.refl _) _) _).step h6 | exact (Since.drew (Since.refl _)).step h6 | exact (Since.alloc (Since.alloc (Since.alloc (Since.refl _) _) _) _).step h6))
        replace HS := Lib.hid (HS.out.step (by first | exact h6 | exact (Since.alloc (Since.refl _) _).step h6 | exact (Since.alloc (Since.alloc (Since.refl _) _) _).step h6 | exact (Since.drew (Since.refl _)).step h6 | exact (Since.alloc (Since.alloc (Since.alloc (Since.refl _) _) _) _).step h6))
        clear h6
        go_wp2_with fail
        refine (c6.calls0 HV5.out HA.out) ?_
        intro w7 h7
        replace HA := Lib.hid (HA.out.since (by first | exact h7 | exact (Since.alloc (Since.refl _) _).step h7 | exact (Since.alloc (Since.alloc (Since.refl _) _) _).step h7 | exact (Since.drew (Since.refl _)).step h7 | exact (Since.alloc (Since.alloc (Since.alloc (Since.refl _) _) _) _).step h7))
        replace HB := Lib.hid (HB.out.since (by first | exact h7 | exact (Since.alloc (Since.refl _) _).step h7 | exact (Since.alloc (Since.alloc (Since.refl _) _) _).step h7 | exact (Since.drew (Since.refl _)).step h7 | exact (Since.alloc (Since.alloc (Since.alloc (Since.refl _) _) _) _).step h7))
        replace HS := Lib.hid (HS.out.step (by first | exact h7 | exact (Since.alloc (Since.refl _) _).step h7 | exact (Since.alloc (Since.alloc (Since.refl _) _) _).step h7 | exact (Since.drew (Since.refl _)).step h7 | exact (Since.alloc (Since.alloc (Since.alloc (Since.refl _) _) _) _).step h7))
        clear h7
        go_wp2_with fail
        refine (c7.calls0 HA.out HB.out) ?_
        intro w8 h8
        replace HA := Lib.hid (HA.out.since (by first | exact h8 | exact (Since.alloc (Since.refl _) _).step h8 | exact (Since.alloc (Since.alloc (Since.refl _) _) _).step h8 | exact (Since.drew (Since.refl _)).step h8 | exact (Since.alloc (Since.alloc (Since.alloc (Since.refl _) _) _) _).step h8))
        replace HB := Lib.hid (HB.out.since (by first | exact h8 | exact (Since.alloc (Since.refl _) _).step h8 | exact (Since.alloc (Since.alloc (Since.refl _) _) _).step h8 | exact (Since.drew (Since.refl _)).step h8 | exact (Since.alloc (Since.alloc (Since.alloc (Since.refl _) _) _) _).step h8))
        replace HS := Lib.hid (HS.out.step (by first | exact h8 | exact (Since.alloc (Since.refl _) _).step h8 | exact (Since.alloc (Since.alloc (Since.refl _) _) _).step h8 | exact (Since.drew (Since.refl _)).step h8 | exact (Since.alloc (Since.alloc (Since.alloc (Since.refl _) _) _) _).step h8))
        clear h8
        go_wp2_with fail
        refine (c20.calls0) ?_
        intro v20 w20 hv20 h20
        have HV20 := Lib.hid hv20
        clear hv20
        replace HS := Lib.hid (HS.out.step (by first | exact h20 | exact (Since.alloc (Since.refl _) _).step h20 | exact (Since.alloc (Since.alloc (Since.refl _) _) _).step h20 | exact (Since.drew (Since.refl _)).step h20 | exact (Since.alloc (Since.alloc (Since.alloc (Since.refl _) _) _) _).step h20))
        clear h20
        go_wp2_with fail
        refine (c21.calls0) ?_
        intro v21 w21 hv21 h21
        have HV21 := Lib.hid hv21
        clear hv21
        replace HS := Lib.hid (HS.out.step (by first | exact h21 | exact (Since.alloc (Since.refl _) _).step h21 | exact (Since.alloc (Since.alloc (Since.refl _) _) _).step h21 | exact (Since.drew (Since.refl _)).step h21 | exact (Since.alloc (Since.alloc (Since.alloc (Since.refl _) _) _) _).step h21))
        clear h21
        go_wp2_with fail
        refine (awake_mak.calls0) ?_
        intro w30 h30
        replace HS := Lib.hid (HS.out.step (by first | exact h30 | exact (Since.alloc (Since.refl _) _).step h30 | exact (Since.alloc (Since.alloc (Since.refl _) _) _).step h30 | exact (Since.drew (Since.refl _)).step h30 | exact (Since.alloc (Since.alloc (Since.alloc (Since.refl _) _) _) _).step h30))
        clear h30
        go_wp2_with fail
        go_ret
        exact ⟨rfl, HS.out⟩
      · have q23 := c23.out rfl
        clear c23
        go_enter Try.func4, Try.ntmps4
        go_wp2_with fail
        refine (c1.calls0 HA.out) ?_
        intro w1 h1
        replace HA := Lib.hid (HA.out.since (by first | exact h1 | exact (Since.alloc (Since.refl _) _).step h1 | exact (Since.alloc (Since.alloc (Since.refl _) _) _).step h1 | exact (Since.drew (Since.refl _)).step h1 | exact (Since.alloc (Since.alloc (Since.alloc (Since.refl _) _) _) _).step h1))
        replace HB := Lib.hid (HB.out.since (by first | exact h1 | exact (Since.alloc (Since.refl _) _).step h1 | exact (Since.alloc (Since.alloc (Since.refl _) _) _).step h1 | exact (Since.drew (Since.refl _)).step h1 | exact (Since.alloc (Since.alloc (Since.alloc (Since.refl _) _) _) _).step h1))
        replace HS := Lib.hid (HS.out.step (by first | exact h1 | exact (Since.alloc (Since.refl _) _).step h1 | exact (Since.alloc (Since.alloc (Since.refl _) _) _).step h1 | exact (Since.drew (Since.refl _)).step h1 | exact (Since.alloc (Since.alloc (Since.alloc (Since.refl _) _) _) _).step h1))
        clear h1
        go_wp2_with fail
        refine (c2.calls0 HB.out) ?_
        intro w2 h2
        replace HA := Lib.hid (HA.out.since (by first | exact h2 | exact (Since.alloc (Since.refl _) _).step h2 | exact (Since.alloc (Since.alloc (Since.refl _) _) _).step h2 | exact (Since.drew (Since.refl _)).step h2 | exact (Since.alloc (Since.alloc (Since.alloc (Since.refl _) _) _) _).step h2))
        replace HB := Lib.hid (HB.out.since (by first | exact h2 | exact (Since.alloc (Since.refl _) _).step h2 | exact (Since.alloc (Since.alloc (Since.refl _) _) _).step h2 | exact (Since.drew (Since.refl _)).step h2 | exact (Since.alloc (Since.alloc (Since.alloc (Since.refl _) _) _) _).step h2))
        replace HS := Lib.hid (HS.out.step (by first | exact h2 | exact (Since.alloc (Since.refl _) _).step h2 | exact (Since.alloc (Since.alloc (Since.refl _) _) _).step h2 | exact (Since.drew (Since.refl _)).step h2 | exact (Since.alloc (Since.alloc (Since.alloc (Since.refl _) _) _) _).step h2))
        clear h2
        go_wp2_with fail
        refine (c3.calls0) ?_
        intro v3 w3 hv3 h3
        have HV3 := Lib.hid hv3
        clear hv3
        replace HA := Lib.hid (HA.out.since (by first | exact h3 | exact (Since.alloc (Since.refl _) _).step h3 | exact (Since.alloc (Since.alloc (Since.refl _) _) _).step h3 | exact (Since.drew (Since.refl _)).step h3 | exact (Since.alloc (Since.alloc (Since.alloc (Since.refl _) _) _) _).step h3))
        replace HB := Lib.hid (HB.out.since (by first | exact h3 | exact (Since.alloc (Since.refl _) _).step h3 | exact (Since.alloc (Since.alloc (Since.refl _) _) _).step h3 | exact (Since.drew (Since.refl _)).step h3 | exact (Since.alloc (Since.alloc (Since.alloc (Since.refl _) _) _) _).step h3))
        replace HS := Lib.hid (HS.out.step (by first | exact h3 | exact (Since.alloc (Since.refl _) _).step h3 | exact (Since.alloc (Since.alloc (Since.refl _) _) _).step h3 | exact (Since.drew (Since.refl _)).step h3 | exact (Since.alloc (Since.alloc (Since.alloc (Since.refl _) _) _) _).step h3))
        clear h3
        go_wp2_with fail
        refine (c4.calls0 HA.out) ?_
        intro w4 h4
        replace HA := Lib.hid (HA.out.since (by first | exact h4 | exact (Since.alloc (Since.refl _) _).step h4 | exact (Since.alloc (Since.alloc (Since.refl _) _) _).step h4 | exact (Since.drew (Since.refl _)).step h4 | exact (Since.alloc (Since.alloc (Since.alloc (Since.refl _) _) _) _).step h4))
        replace HB := Lib.hid (HB.out.since (by first | exact h4 | exact (Since.alloc (Since.refl _) _).step h4 | exact (Since.alloc (Since.alloc (Since.refl _) _) _).step h4 | exact (Since.drew (Since.refl _)).step h4 | exact (Since.alloc (Since.alloc (Since.alloc (Since.refl _) _) _) _).step h4))
        replace HV3 := Lib.hid (HV3.out.since (by first | exact h4 | exact (Since.alloc (Since.refl _) _).step h4 | exact (Since.alloc (Since.alloc (Since.refl _) _) _).step h4 | exact (Since.drew (Since.refl _)).step h4 | exact (Since.alloc (Since.alloc (Since.alloc (Since.refl _) _) _) _).step h4))
        replace HS := Lib.hid (HS.out.step (by first | exact h4 | exact (Since.alloc (Since.refl _) _).step h4 | exact (Since.alloc (Since.alloc (Since.refl _) _) _).step h4 | exact (Since.drew (Since.refl _)).step h4 | exact (Since.alloc (Since.alloc (Since.alloc (Since.refl _) _) _) _).step h4))
        clear h4
        go_wp2_with fail
        refine (c5.calls0) ?_
        intro v5 w5 hv5 h5
        have HV5 := Lib.hid hv5
        clear hv5
        replace HA := Lib.hid (HA.out.since (by first | exact h5 | exact (Since.alloc (Since.refl _) _).step h5 | exact (Since.alloc (Since.alloc (Since.refl _) _) _).step h5 | exact (Since.drew (Since.refl _)).step h5 | exact (Since.alloc (Since.alloc (Since.alloc (Since.refl _) _) _) _).step h5))
        replace HB := Lib.hid (HB.out.since (by first | exact h5 | exact (Since.alloc (Since.refl _) _).step h5 | exact (Since.alloc (Since.alloc (Since.refl _) _) _).step h5 | exact (Since.drew (Since.refl _)).step h5 | exact (Since.alloc (Since.alloc (Since.alloc (Since.refl _) _) _) _).step h5))
        replace HV3 := Lib.hid (HV3.out.since (by first | exact h5 | exact (Since.alloc (Since.refl _) _).step h5 | exact (Since.alloc (Since.alloc (Since.refl _) _) _).step h5 | exact (Since.drew (Since.refl _)).step h5 | exact (Since.alloc (Since.alloc (Since.alloc (Since.refl _) _) _) _).step h5))
        replace HS := Lib.hid (HS.out.step (by first | exact h5 | exact (Since.alloc (Since.refl _) _).step h5 | exact (Since.alloc (Since.alloc (Since.refl _) _) _).step h5 | exact (Since.drew (Since.refl _)).step h5 | exact (Since.alloc (Since.alloc (Since.alloc (Since.refl _) _) _) _).step h5))
        clear h5
        go_wp2_with fail
        refine (c6.calls0 HV3.out HA.out) ?_
        intro w6 h6
        replace HA := Lib.hid (HA.out.since (by first | exact h6 | exact (Since.alloc (Since.refl _) _).step h6 | exact (Since.alloc (Since.alloc (Since.refl _) _) _).step h6 | exact (Since.drew (Since.refl _)).step h6 | exact (Since.alloc (Since.alloc (Since.alloc (Since.refl _) _) _) _).step h6))
        replace HB := Lib.hid (HB.out.since (by first | exact h6 | exact (Since.alloc (Since.refl _) _).step h6 | exact (Since.alloc (Since.alloc (Since.refl _) _) _).step h6 | exact (Since.drew (Since.refl _)).step h6 | exact (Since.alloc (Since.alloc (Since.alloc (Since.refl _) _) _) _).step h6))
        replace HV5 := Lib.hid (HV5.out.since (by first | exact h6 | exact (Since.alloc (Since.refl _) _).step h6 | exact (Since.alloc (Since.alloc (Since.refl _) _) _).step h6 | exact (Since.drew (Since.refl _)).step h6 | exact (Since.alloc (Since.alloc (Since.alloc (Since.refl _) _) _) _).step h6))
        replace HS := Lib.hid (HS.out.step (by first | exact h6 | exact (Since.alloc (Since.refl _) _).step h6 | exact (Since.alloc (Since.alloc (Since.refl _) _) _).step h6 | exact (Since.drew (Since.refl _)).step h6 | exact (Since.alloc (Since.alloc (Since.alloc (Since.refl _) _) _) _).step h6))
        clear h6
        go_wp2_with fail
        refine (c6.calls0 HV5.out HA.out) ?_
        intro w7 h7
        replace HA := Lib.hid (HA.out.since (by first | exact h7 | exact (Since.alloc (Since.refl _) _).step h7 | exact (Since.alloc (Since.alloc (Since.refl _) _) _).step h7 | exact (Since.drew (Since.refl _)).step h7 | exact (Since.alloc (Since.alloc (Since.alloc (Since.refl _) _) _) _).step h7))
        replace HB := Lib.hid (HB.out.since (by first | exact h7 | exact (Since.alloc (Since.refl _) _).step h7 | exact (Since.alloc (Since.alloc (Since.refl _) _) _).step h7 | exact (Since.drew (Since.refl _)).step h7 | exact (Since.alloc (Since.alloc (Since.alloc (Since.refl _) _) _) _).step h7))
        replace HS := Lib.hid (HS.out.step (by first | exact h7 | exact (Since.alloc (Since.refl _) _).step h7 | exact (Since.alloc (Since.alloc (Since.refl _) _) _).step h7 | exact (Since.drew (Since.refl _)).step h7 | exact (Since.alloc (Since.alloc (Since.alloc (Since.refl _) _) _) _).step h7))
        clear h7
        go_wp2_with fail
        refine (c7.calls0 HA.out HB.out) ?_
        intro w8 h8
        replace HA := Lib.hid (HA.out.since (by first | exact h8 | exact (Since.alloc (Since.refl _) _).step h8 | exact (Since.alloc (Since.alloc (Since.refl _) _) _).step h8 | exact (Since.drew (Since.refl _)).step h8 | exact (Since.alloc (Since.alloc (Since.alloc (Since.refl _) _) _) _).step h8))
        replace HB := Lib.hid (HB.out.since (by first | exact h8 | exact (Since.alloc (Since.refl _) _).step h8 | exact (Since.alloc (Since.alloc (Since.refl _) _) _).step h8 | exact (Since.drew (Since.refl _)).step h8 | exact (Since.alloc (Since.alloc (Since.alloc (Since.refl _) _) _) _).step h8))
        replace HS := Lib.hid (HS.out.step (by first | exact h8 | exact (Since.alloc (Since.refl _) _).step h8 | exact (Since.alloc (Since.alloc (Since.refl _) _) _).step h8 | exact (Since.drew (Since.refl _)).step h8 | exact (Since.alloc (Since.alloc (Since.alloc (Since.refl _) _) _) _).step h8))
        clear h8
        go_wp2_with fail
        refine (c20.calls0) ?_
        intro v20 w20 hv20 h20
        have HV20 := Lib.hid hv20
        clear hv20
        replace HS := Lib.hid (HS.out.step (by first | exact h20 | exact (Since.alloc (Since.refl _) _).step h20 | exact (Since.alloc (Since.alloc (Since.refl _) _) _).step h20 | exact (Since.drew (Since.refl _)).step h20 | exact (Since.alloc (Since.alloc (Since.alloc (Since.refl _) _) _) _).step h20))
        clear h20
        go_wp2_with fail
        refine (c21.calls0) ?_
        intro v21 w21 hv21 h21
        have HV21 := Lib.hid hv21
        clear hv21
        replace HS := Lib.hid (HS.out.step (by first | exact h21 | exact (Since.alloc (Since.refl _) _).step h21 | exact (Since.alloc (Since.alloc (Since.refl _) _) _).step h21 | exact (Since.drew (Since.refl _)).step h21 | exact (Since.alloc (Since.alloc (Since.alloc (Since.refl _) _) _) _).step h21))
        clear h21
        go_wp2_with fail
        refine (q23.calls0 HV21.out) ?_
        intro w22 h22
        replace HS := Lib.hid (HS.out.step (by first | exact h22 | exact (Since.alloc (Since.refl _) _).step h22 | exact (Since.alloc (Since.alloc (Since.refl _) _) _).step h22 | exact (Since.drew (Since.refl _)).step h22 | exact (Since.alloc (Since.alloc (Since.alloc (Since.refl _) _) _) _).step h22))
        clear h22
        go_wp2_with fail
        refine (awake_mak.calls0) ?_
        intro w30 h30
        replace HS := Lib.hid (HS.out.step (by first | exact h30 | exact (Since.alloc (Since.refl _) _).step h30 | exact (Since.alloc (Since.alloc (Since.refl _) _) _).step h30 | exact (Since.drew (Since.refl _)).step h30 | exact (Since.alloc (Since.alloc (Since.alloc (Since.refl _) _) _) _).step h30))
        clear h30
        go_wp2_with fail
        go_ret
        exact ⟨rfl, HS.out⟩
    · have q22 := c22.out rfl
      clear c22
      cases f2
      · clear c23
        go_enter Try.func4, Try.ntmps4
        go_wp2_with fail
        refine (c1.calls0 HA.out) ?_
        intro w1 h1
        replace HA := Lib.hid (HA.out.since (by first | exact h1 | exact (Since.alloc (Since.refl _) _).step h1 | exact (Since.alloc (Since.alloc (Since.refl _) _) _).step h1 | exact (Since.drew (Since.refl _)).step h1 | exact (Since.alloc (Since.alloc (Since.alloc (Since.refl _) _) _) _).step h1))
        replace HB := Lib.hid (HB.out.since (by first | exact h1 | exact (Since.alloc (Since.refl _) _).step h1 | exact (Since.alloc (Since.alloc (Since.refl _) _) _).step h1 | exact (Since.drew (Since.refl _)).step h1 | exact (Since.alloc (Since.alloc (Since.alloc (Since.refl _) _) _) _).step h1))
        replace HS := Lib.hid (HS.out.step (by first | exact h1 | exact (Since.alloc (Since.refl _) _).step h1 | exact (Since.alloc (Since.alloc (Since.refl _) _) _).step h1 | exact (Since.drew (Since.refl _)).step h1 | exact (Since.alloc (Since.alloc (Since.alloc (Since.refl _) _) _) _).step h1))
        clear h1
        go_wp2_with fail
        refine (c2.calls0 HB.out) ?_
        intro w2 h2
        replace HA := Lib.hid (HA.out.since (by first | exact h2 | exact (Since.alloc (Since.refl _) _).step h2 | exact (Since.alloc (Since.alloc (Since.refl _) _) _).step h2 | exact (Since.drew (Since.refl _)).step h2 | exact (Since.alloc (Since.alloc (Since.alloc (Since.refl _) _) _) _).step h2))
        replace HB := Lib.hid (HB.out.since (by first | exact h2 | exact (Since.alloc (Since.refl _) _).step h2 | exact (Since.alloc (Since.alloc (Since.refl _) _) _).step h2 | exact (Since.drew (Since.refl _)).step h2 | exact (Since.alloc (Since.alloc (Since.alloc (Since.refl _) _) _) _).step h2))
        replace HS := Lib.hid (HS.out.step (by first | exact h2 | exact (Since.alloc (Since.refl _) _).step h2 | exact (Since.alloc (Since.alloc (Since.refl _) _) _).step h2 | exact (Since.drew (Since.refl _)).step h2 | exact (Since.alloc (Since.alloc (Since.alloc (Since.refl _) _) _) _).step h2))
        clear h2
        go_wp2_with fail
        refine (c3.calls0) ?_
        intro v3 w3 hv3 h3
        have HV3 := Lib.hid hv3
        clear hv3
        replace HA := Lib.hid (HA.out.since (by first | exact h3 | exact (Since.alloc (Since.refl _) _).step h3 | exact (Since.alloc (Since.alloc (Since.refl _) _) _).step h3 | exact (Since.drew (Since.refl _)).step h3 | exact (Since.alloc (Since.alloc (Since.alloc (Since.refl _) _) _) _).step h3))
        replace HB := Lib.hid (HB.out.since (by first | exact h3 | exact (Since.alloc (Since.refl _) _).step h3 | exact (Since.alloc (Since.alloc (Since.refl _) _) _).step h3 | exact (Since.drew (Since.refl _)).step h3 | exact (Since.alloc (Since.alloc (Since.alloc (Since.refl _) _) _) _).step h3))
        replace HS := Lib.hid (HS.out.step (by first | exact h3 | exact (Since.alloc (Since.refl _) _).step h3 | exact (Since.alloc (Since.alloc (Since.refl _) _) _).step h3 | exact (Since.drew (Since.refl _)).step h3 | exact (Since.alloc (Since.alloc (Since.alloc (Since.refl _) _) _) _).step h3))
        clear h3
        go_wp2_with fail
        refine (c4.calls0 HA.out) ?_
        intro w4 h4
        replace HA := Lib.hid (HA.out.since (by first | exact h4 | exact (Since.alloc (Since.refl _) _).step h4 | exact (Since.alloc (Since.alloc (Since.refl _) _) _).step h4 | exact (Since.drew (Since.refl _)).step h4 | exact (Since.alloc (Since.alloc (Since.alloc (Since.refl _) _) _) _).step h4))
        replace HB := Lib.hid (HB.out.since (by first | exact h4 | exact (Since.alloc (Since.refl _) _).step h4 | exact (Since.alloc (Since.alloc (Since.refl _) _) _).step h4 | exact (Since.drew (Since.refl _)).step h4 | exact (Since.alloc (Since.alloc (Since.alloc (Since.refl _) _) _) _).step h4))
        replace HV3 := Lib.hid (HV3.out.since (by first | exact h4 | exact (Since.alloc (Since.refl _) _).step h4 | exact (Since.alloc (Since.alloc (Since.refl _) _) _).step h4 | exact (Since.drew (Since.refl _)).step h4 | exact (Since.alloc (Since.alloc (Since.alloc (Since.refl _) _) _) _).step h4))
        replace HS := Lib.hid (HS.out.step (by first | exact h4 | exact (Since.alloc (Since.refl _) _).step h4 | exact (Since.alloc (Since.alloc (Since.refl _) _) _).step h4 | exact (Since.drew (Since.refl _)).step h4 | exact (Since.alloc (Since.alloc (Since.alloc (Since.refl _) _) _) _).step h4))
        clear h4
        go_wp2_with fail
        refine (c5.calls0) ?_
        intro v5 w5 hv5 h5
        have HV5 := Lib.hid hv5
        clear hv5
        replace HA := Lib.hid (HA.out.since (by first | exact h5 | exact (Since.alloc (Since.refl _) _).step h5 | exact (Since.alloc (Since.alloc (Since.refl _) _) _).step h5 | exact (Since.drew (Since.refl _)).step h5 | exact (Since.alloc (Since.alloc (Since.alloc (Since.refl _) _) _) _).step h5))
        replace HB := Lib.hid (HB.out.since (by first | exact h5 | exact (Since.alloc (Since.refl _) _).step h5 | exact (Since.alloc (Since.alloc (Since.refl _) _) _).step h5 | exact (Since.drew (Since.refl _)).step h5 | exact (Since.alloc (Since.alloc (Since.alloc (Since.refl _) _) _) _).step h5))
        replace HV3 := Lib.hid (HV3.out.since (by first | exact h5 | exact (Since.alloc (Since.refl _) _).step h5 | exact (Since.alloc (Since.alloc (Since.refl _) _) _).step h5 | exact (Since.drew (Since.refl _)).step h5 | exact (Since.alloc (Since.alloc (Since.alloc (Since.refl _) _) _) _).step h5))
        replace HS := Lib.hid (HS.out.step (by first | exact h5 | exact (Since.alloc (Since.refl _) _).step h5 | exact (Since.alloc (Since.alloc (Since.refl _) _) _).step h5 | exact (Since.drew (Since.refl _)).step h5 | exact (Since.alloc (Since.alloc (Since.alloc (Since.refl _) _) _) _).step h5))
        clear h5
        go_wp2_with fail
        refine (c6.calls0 HV3.out HA.out) ?_
        intro w6 h6
        replace HA := Lib.hid (HA.out.since (by first | exact h6 | exact (Since.alloc (Since.refl _) _).step h6 | exact (Since.alloc (Since.alloc (Since.refl _) _) _).step h6 | exact (Since.drew (Since.refl _)).step h6 | exact (Since.alloc (Since.alloc (Since.alloc (Since.refl _) _) _) _).step h6))
        replace HB := Lib.hid (HB.out.since (by first | exact h6 | exact (Since.alloc (Since.refl _) _).step h6 | exact (Since.alloc (Since.alloc (Since.refl _) _) _).step h6 | exact (Since.drew (Since.refl _)).step h6 | exact (Since.alloc (Since.alloc (Since.alloc (Since.refl _) _) _) _).step h6))
        replace HV5 := Lib.hid (HV5.out.since (by first | exact h6 | exact (Since.alloc (Since.refl _) _).step h6 | exact (Since.alloc (Since.alloc (Since.refl _) _) _).step h6 | exact (Since.drew (Since.refl _)).step h6 | exact (Since.alloc (Since.alloc (Since.alloc (Since.refl _) _) _) _).step h6))
        replace HS := Lib.hid (HS.out.step (by first | exact h6 | exact (Since.alloc (Since.refl _) _).step h6 | exact (Since.alloc (Since.alloc (Since.refl _) _) _).step h6 | exact (Since.drew (Since.refl _)).step h6 | exact (Since.alloc (Since.alloc (Since.alloc (Since.refl _) _) _) _).step h6))
        clear h6
        go_wp2_with fail
        refine (c6.calls0 HV5.out HA.out) ?_
        intro w7 h7
        replace HA := Lib.hid (HA.out.since (by first | exact h7 | exact (Since.alloc (Since.refl _) _).step h7 | exact (Since.alloc (Since.alloc (Since.refl _) _) _).step h7 | exact (Since.drew (Since.refl _)).step h7 | exact (Since.alloc (Since.alloc (Since.alloc (Since.refl _) _) _) _).step h7))
        replace HB := Lib.hid (HB.out.since (by first | exact h7 | exact (Since.alloc (Since.refl _) _).step h7 | exact (Since.alloc (Since.alloc (Since.refl _) _) _).step h7 | exact (Since.drew (Since.refl _)).step h7 | exact (Since.alloc (Since.alloc (Since.alloc (Since.refl _) _) _) _).step h7))
        replace HS := Lib.hid (HS.out.step (by first | exact h7 | exact (Since.alloc (Since.refl _) _).step h7 | exact (Since.alloc (Since.alloc (Since.refl _) _) _).step h7 | exact (Since.drew (Since.refl _)).step h7 | exact (Since.alloc (Since.alloc (Since.alloc (Since.refl _) _) _) _).step h7))
        clear h7
        go_wp2_with fail
        refine (c7.calls0 HA.out HB.out) ?_
        intro w8 h8
        replace HA := Lib.hid (HA.out.since (by first | exact h8 | exact (Since.alloc (Since.refl _) _).step h8 | exact (Since.alloc (Since.alloc (Since.refl _) _) _).step h8 | exact (Since.drew (Since.refl _)).step h8 | exact (Since.alloc (Since.alloc (Since.alloc (Since.refl _) _) _) _).step h8))
        replace HB := Lib.hid (HB.out.since (by first | exact h8 | exact (Since.alloc (Since.refl _) _).step h8 | exact (Since.alloc (Since.alloc (Since.refl _) _) _).step h8 | exact (Since.drew (Since.refl _)).step h8 | exact (Since.alloc (Since.alloc (Since.alloc (Since.refl _) _) _) _).step h8))
        replace HS := Lib.hid (HS.out.step (by first | exact h8 | exact (Since.alloc (Since.refl _) _).step h8 | exact (Since.alloc (Since.alloc (Since.refl _) _) _).step h8 | exact (Since.drew (Since.refl _)).step h8 | exact (Since.alloc (Since.alloc (Since.alloc (Since.refl _) _) _) _).step h8))
        clear h8
        go_wp2_with fail
        refine (c20.calls0) ?_
        intro v20 w20 hv20 h20
        have HV20 := Lib.hid hv20
        clear hv20
        replace HS := Lib.hid (HS.out.step (by first | exact h20 | exact (Since.alloc (Since.refl _) _).step h20 | exact (Since.alloc (Since.alloc (Since.refl _) _) _).step h20 | exact (Since.drew (Since.refl _)).step h20 | exact (Since.alloc (Since.alloc (Since.alloc (Since.refl _) _) _) _).step h20))
        clear h20
        go_wp2_with fail
        refine (q22.calls0 HV20.out) ?_
        intro w23 h23
        replace HS := Lib.hid (HS.out.step (by first | exact h23 | exact (Since.alloc (Since.refl _) _).step h23 | exact (Since.alloc (Since.alloc (Since.refl _) _) _).step h23 | exact (Since.drew (Since.refl _)).step h23 | exact (Since.alloc (Since.alloc (Since.alloc (Since.refl _) _) _) _).step h23))
        clear h23
        go_wp2_with fail
        refine (c21.calls0) ?_
        intro v21 w21 hv21 h21
        have HV21 := Lib.hid hv21
        clear hv21
        replace HS := Lib.hid (HS.out.step (by first | exact h21 | exact (Since.alloc (Since.refl _) _).step h21 | exact (Since.alloc (Since.alloc (Since.refl _) _) _).step h21 | exact (Since.drew (Since.refl _)).step h21 | exact (Since.alloc (Since.alloc (Since.alloc (Since.refl _) _) _) _).step h21))
        clear h21
        go_wp2_with fail
        refine (awake_mak.calls0) ?_
        intro w30 h30
        replace HS := Lib.hid (HS.out.step (by first | exact h30 | exact (Since.alloc (Since.refl _) _).step h30 | exact (Since.alloc (Since.alloc (Since.refl _) _) _).step h30 | exact (Since.drew (Since.refl _)).step h30 | exact (Since.alloc (Since.alloc (Since.alloc (Since.refl _) _) _) _).step h30))
        clear h30
        go_wp2_with fail
        go_ret
        exact ⟨rfl, HS.out⟩
      · have q23 := c23.out rfl
        clear c23
        go_enter Try.func4, Try.ntmps4
        go_wp2_with fail
        refine (c1.calls0 HA.out) ?_
        intro w1 h1
        replace HA := Lib.hid (HA.out.since (by first | exact h1 | exact (Since.alloc (Since.refl _) _).step h1 | exact (Since.alloc (Since.alloc (Since.refl _) _) _).step h1 | exact (Since.drew (Since.refl _)).step h1 | exact (Since.alloc (Since.alloc (Since.alloc (Since.refl _) _) _) _).step h1))
        replace HB := Lib.hid (HB.out.since (by first | exact h1 | exact (Since.alloc (Since.refl _) _).step h1 | exact (Since.alloc (Since.alloc (Since.refl _) _) _).step h1 | exact (Since.drew (Since.refl _)).step h1 | exact (Since.alloc (Since.alloc (Since.alloc (Since.refl _) _) _) _).step h1))
        replace HS := Lib.hid (HS.out.step (by first | exact h1 | exact (Since.alloc (Since.refl _) _).step h1 | exact (Since.alloc (Since.alloc (Since.refl _) _) _).step h1 | exact (Since.drew (Since.refl _)).step h1 | exact (Since.alloc (Since.alloc (Since.alloc (Since.refl _) _) _) _).step h1))
        clear h1
        go_wp2_with fail
        refine (c2.calls0 HB.out) ?_
        intro w2 h2
        replace HA := Lib.hid (HA.out.since (by first | exact h2 | exact (Since.alloc (Since.refl _) _).step h2 | exact (Since.alloc (Since.alloc (Since.refl _) _) _).step h2 | exact (Since.drew (Since.refl _)).step h2 | exact (Since.alloc (Since.alloc (Since.alloc (Since.refl _) _) _) _).step h2))
        replace HB := Lib.hid (HB.out.since (by first | exact h2 | exact (Since.alloc (Since.refl _) _).step h2 | exact (Since.alloc (Since.alloc (Since.refl _) _) _).step h2 | exact (Since.drew (Since.refl _)).step h2 | exact (Since.alloc (Since.alloc (Since.alloc (Since.refl _) _) _) _).step h2))
        replace HS := Lib.hid (HS.out.step (by first | exact h2 | exact (Since.alloc (Since.refl _) _).step h2 | exact (Since.alloc (Since.alloc (Since.refl _) _) _).step h2 | exact (Since.drew (Since.refl _)).step h2 | exact (Since.alloc (Since.alloc (Since.alloc (Since.refl _) _) _) _).step h2))
        clear h2
        go_wp2_with fail
        refine (c3.calls0) ?_
        intro v3 w3 hv3 h3
        have HV3 := Lib.hid hv3
        clear hv3
        replace HA := Lib.hid (HA.out.since (by first | exact h3 | exact (Since.alloc (Since.refl _) _).step h3 | exact (Since.alloc (Since.alloc (Since.refl _) _) _).step h3 | exact (Since.drew (Since.refl _)).step h3 | exact (Since.alloc (Since.alloc (Since.alloc (Since.refl _) _) _) _).step h3))
        replace HB := Lib.hid (HB.out.since (by first | exact h3 | exact (Since.alloc (Since.refl _) _).step h3 | exact (Since.alloc (Since.alloc (Since.refl _) _) _).step h3 | exact (Since.drew (Since.refl _)).step h3 | exact (Since.alloc (Since.alloc (Since.alloc (Since.refl _) _) _) _).step h3))
        replace HS := Lib.hid (HS.out.step (by first | exact h3 | exact (Since.alloc (Since.refl _) _).step h3 | exact (Since.alloc (Since.alloc (Since.refl _) _) _).step h3 | exact (Since.drew (Since.refl _)).step h3 | exact (Since.alloc (Since.alloc (Since.alloc (Since.refl _) _) _) _).step h3))
        clear h3
        go_wp2_with fail
        refine (c4.calls0 HA.out) ?_
        intro w4 h4
        replace HA := Lib.hid (HA.out.since (by first | exact h4 | exact (Since.alloc (Since.refl _) _).step h4 | exact (Since.alloc (Since.alloc (Since.refl _) _) _).step h4 | exact (Since.drew (Since.refl _)).step h4 | exact (Since.alloc (Since.alloc (Since.alloc (Since.refl _) _) _) _).step h4))
        replace HB := Lib.hid (HB.out.since (by first | exact h4 | exact (Since.alloc (Since.refl _) _).step h4 | exact (Since.alloc (Since.alloc (Since.refl _) _) _).step h4 | exact (Since.drew (Since.refl _)).step h4 | exact (Since.alloc (Since.alloc (Since.alloc (Since.refl _) _) _) _).step h4))
        replace HV3 := Lib.hid (HV3.out.since (by first | exact h4 | exact (Since.alloc (Since.refl _) _).step h4 | exact (Since.alloc (Since.alloc (Since.refl _) _) _).step h4 | exact (Since.drew (Since.refl _)).step h4 | exact (Since.alloc (Since.alloc (Since.alloc (Since.refl _) _) _) _).step h4))
        replace HS := Lib.hid (HS.out.step (by first | exact h4 | exact (Since.alloc (Since.refl _) _).step h4 | exact (Since.alloc (Since.alloc (Since.refl _) _) _).step h4 | exact (Since.drew (Since.refl _)).step h4 | exact (Since.alloc (Since.alloc (Since.alloc (Since.refl _) _) _) _).step h4))
        clear h4
        go_wp2_with fail
        refine (c5.calls0) ?_
        intro v5 w5 hv5 h5
        have HV5 := Lib.hid hv5
        clear hv5
        replace HA := Lib.hid (HA.out.since (by first | exact h5 | exact (Since.alloc (Since.refl _) _).step h5 | exact (Since.alloc (Since.alloc (Since.refl _) _) _).step h5 | exact (Since.drew (Since.refl _)).step h5 | exact (Since.alloc (Since.alloc (Since.alloc (Since.refl _) _) _) _).step h5))
        replace HB := Lib.hid (HB.out.since (by first | exact h5 | exact (Since.alloc (Since.refl _) _).step h5 | exact (Since.alloc (Since.alloc (Since.refl _) _) _).step h5 | exact (Since.drew (Since.refl _)).step h5 | exact (Since.alloc (Since.alloc (Since.alloc (Since.refl _) _) _) _).step h5))
        replace HV3 := Lib.hid (HV3.out.since (by first | exact h5 | exact (Since.alloc (Since.refl _) _).step h5 | exact (Since.alloc (Since.alloc (Since.refl _) _) _).step h5 | exact (Since.drew (Since.refl _)).step h5 | exact (Since.alloc (Since.alloc (Since.alloc (Since.refl _) _) _) _).step h5))
        replace HS := Lib.hid (HS.out.step (by first | exact h5 | exact (Since.alloc (Since.refl _) _).step h5 | exact (Since.alloc (Since.alloc (Since.refl _) _) _).step h5 | exact (Since.drew (Since.refl _)).step h5 | exact (Since.alloc (Since.alloc (Since.alloc (Since.refl _) _) _) _).step h5))
        clear h5
        go_wp2_with fail
        refine (c6.calls0 HV3.out HA.out) ?_
        intro w6 h6
        replace HA := Lib.hid (HA.out.since (by first | exact h6 | exact (Since.alloc (Since.refl _) _).step h6 | exact (Since.alloc (Since.alloc (Since.refl _) _) _).step h6 | exact (Since.drew (Since.refl _)).step h6 | exact (Since.alloc (Since.alloc (Since.alloc (Since.refl _) _) _) _).step h6))
        replace HB := Lib.hid (HB.out.since (by first | exact h6 | exact (Since.alloc (Since.refl _) _).step h6 | exact (Since.alloc (Since.alloc (Since.refl _) _) _).step h6 | exact (Since.drew (Since.refl _)).step h6 | exact (Since.alloc (Since.alloc (Since.alloc (Since.refl _) _) _) _).step h6))
        replace HV5 := Lib.hid (HV5.out.since (by first | exact h6 | exact (Since.alloc (Since.refl _) _).step h6 | exact (Since.alloc (Since.alloc (Since.refl _) _) _).step h6 | exact (Since.drew (Since.refl _)).step h6 | exact (Since.alloc (Since.alloc (Since.alloc (Since.refl _) _) _) _).step h6))
        replace HS := Lib.hid (HS.out.step (by first | exact h6 | exact (Since.alloc (Since.refl _) _).step h6 | exact (Since.alloc (Since.alloc (Since.refl _) _) _).step h6 | exact (Since.drew (Since.refl _)).step h6 | exact (Since.alloc (Since.alloc (Since.alloc (Since.refl _) _) _) _).step h6))
        clear h6
        go_wp2_with fail
        refine (c6.calls0 HV5.out HA.out) ?_
        intro w7 h7
        replace HA := Lib.hid (HA.out.since (by first | exact h7 | exact (Since.alloc (Since.refl _) _).step h7 | exact (Since.alloc (Since.alloc (Since.refl _) _) _).step h7 | exact (Since.drew (Since.refl _)).step h7 | exact (Since.alloc (Since.alloc (Since.alloc (Since.refl _) _) _) _).step h7))
        replace HB := Lib.hid (HB.out.since (by first | exact h7 | exact (Since.alloc (Since.refl _) _).step h7 | exact (Since.alloc (Since.alloc (Since.refl _) _) _).step h7 | exact (Since.drew (Since.refl _)).step h7 | exact (Since.alloc (Since.alloc (Since.alloc (Since.refl _) _) _) _).step h7))
        replace HS := Lib.hid (HS.out.step (by first | exact h7 | exact (Since.alloc (Since.refl _) _).step h7 | exact (Since.alloc (Since.alloc (Since.refl _) _) _).step h7 | exact (Since.drew (Since.refl _)).step h7 | exact (Since.alloc (Since.alloc (Since.alloc (Since.refl _) _) _) _).step h7))
        clear h7
        go_wp2_with fail
        refine (c7.calls0 HA.out HB.out) ?_
        intro w8 h8
        replace HA := Lib.hid (HA.out.since (by first | exact h8 | exact (Since.alloc (Since.refl _) _).step h8 | exact (Since.alloc (Since.alloc (Since.refl _) _) _).step h8 | exact (Since.drew (Since.refl _)).step h8 | exact (Since.alloc (Since.alloc (Since.alloc (Since.refl _) _) _) _).step h8))
        replace HB := Lib.hid (HB.out.since (by first | exact h8 | exact (Since.alloc (Since.refl _) _).step h8 | exact (Since.alloc (Since.alloc (Since.refl _) _) _).step h8 | exact (Since.drew (Since.refl _)).step h8 | exact (Since.alloc (Since.alloc (Since.alloc (Since.refl _) _) _) _).step h8))
        replace HS := Lib.hid (HS.out.step (by first | exact h8 | exact (Since.alloc (Since.refl _) _).step h8 | exact (Since.alloc (Since.alloc (Since.refl _) _) _).step h8 | exact (Since.drew (Since.refl _)).step h8 | exact (Since.alloc (Since.alloc (Since.alloc (Since.refl _) _) _) _).step h8))
        clear h8
        go_wp2_with fail
        refine (c20.calls0) ?_
        intro v20 w20 hv20 h20
        have HV20 := Lib.hid hv20
        clear hv20
        replace HS := Lib.hid (HS.out.step (by first | exact h20 | exact (Since.alloc (Since.refl _) _).step h20 | exact (Since.alloc (Since.alloc (Since.refl _) _) _).step h20 | exact (Since.drew (Since.refl _)).step h20 | exact (Since.alloc (Since.alloc (Since.alloc (Since.refl _) _) _) _).step h20))
        clear h20
        go_wp2_with fail
        refine (q22.calls0 HV20.out) ?_
        intro w23 h23
        replace HS := Lib.hid (HS.out.step (by first | exact h23 | exact (Since.alloc (Since.refl _) _).step h23 | exact (Since.alloc (Since.alloc (Since.refl _) _) _).step h23 | exact (Since.drew (Since.refl _)).step h23 | exact (Since.alloc (Since.alloc (Since.alloc (Since.refl _) _) _) _).step h23))
        clear h23
        go_wp2_with fail
        refine (c21.calls0) ?_
        intro v21 w21 hv21 h21
        have HV21 := Lib.hid hv21
        clear hv21
        replace HS := Lib.hid (HS.out.step (by first | exact h21 | exact (Since.alloc (Since.refl _) _).step h21 | exact (Since.alloc (Since.alloc (Since.refl _) _) _).step h21 | exact (Since.drew (Since.refl _)).step h21 | exact (Since.alloc (Since.alloc (Since.alloc (Since.refl _) _) _) _).step h21))
        clear h21
        go_wp2_with fail
        refine (q23.calls0 HV21.out) ?_
        intro w22 h22
        replace HS := Lib.hid (HS.out.step (by first | exact h22 | exact (Since.alloc (Since.refl _) _).step h22 | exact (Since.alloc (Since.alloc (Since.refl _) _) _).step h22 | exact (Since.drew (Since.refl _)).step h22 | exact (Since.alloc (Since.alloc (Since.alloc (Since.refl _) _) _) _).step h22))
        clear h22
        go_wp2_with fail
        refine (awake_mak.calls0) ?_
        intro w30 h30
        replace HS := Lib.hid (HS.out.step (by first | exact h30 | exact (Since.alloc (Since.refl _) _).step h30 | exact (Since.alloc (Since.alloc (Since.refl _) _) _).step h30 | exact (Since.drew (Since.refl _)).step h30 | exact (Since.alloc (Since.alloc (Since.alloc (Since.refl _) _) _) _).step h30))
        clear h30
        go_wp2_with fail
        go_ret
        exact ⟨rfl, HS.out⟩
set_option maxRecDepth 100000 in
set_option maxHeartbeats 4000000 in
theorem core_big (w : World) (A0 A1 : Option Addr) (n m d0 d1 : Nat) (c t : ByteArray) (hl0 : n ≤ 9223372036854775807) (hl1 : m ≤ 9223372036854775807) (hb : 60 < n ∨ 60 < m ∨ 200 < c.size ∨ 200 < t.size) :
    Calls Try.prog 4 #[.slice A0 n d0, .slice A1 m d1, .string c, .string t] w fun x w' => x = .returned (.bool true) ∧ Since w w' := by
  have HS := Lib.hid (Since.refl w)
  by_cases h0 : 60 < n
  · have t1 : decide ((60 : Int) < (n : Int)) = true := decide_eq_true (by omega)
    clear hb
    go_enter Try.func4, Try.ntmps4
    go_wp2_with fail
    refine (awake_mak.calls0) ?_
    intro w15 h15
    replace HS := Lib.hid (HS.out.step (by first | exact h15 | exact (Since.alloc (Since.refl _) _).step h15 | exact (Since.alloc (Since.alloc (Since.refl _) _) _).step h15 | exact (Since.drew (Since.refl _)).step h15 | exact (Since.alloc (Since.alloc (Since.alloc (Since.refl _) _) _) _).step h15))
    clear h15
    go_wp2_with fail
    go_ret
    exact ⟨rfl, HS.out⟩
  · have t1 : decide ((60 : Int) < (n : Int)) = false := decide_eq_false (by omega)
    by_cases h1 : 60 < m
    · have t2 : decide ((60 : Int) < (m : Int)) = true := decide_eq_true (by omega)
      clear hb
      go_enter Try.func4, Try.ntmps4
      go_wp2_with fail
      refine (awake_mak.calls0) ?_
      intro w15 h15
      replace HS := Lib.hid (HS.out.step (by first | exact h15 | exact (Since.alloc (Since.refl _) _).step h15 | exact (Since.alloc (Since.alloc (Since.refl _) _) _).step h15 | exact (Since.drew (Since.refl _)).step h15 | exact (Since.alloc (Since.alloc (Since.alloc (Since.refl _) _) _) _).step h15))
      clear h15
      go_wp2_with fail
      go_ret
      exact ⟨rfl, HS.out⟩
    · have t2 : decide ((60 : Int) < (m : Int)) = false := decide_eq_false (by omega)
      by_cases h2 : 200 < c.size
      · have t3 : decide ((200 : Int) < (c.size : Int)) = true := decide_eq_true (by omega)
        clear hb
        go_enter Try.func4, Try.ntmps4
        go_wp2_with fail
        refine (awake_mak.calls0) ?_
        intro w15 h15
        replace HS := Lib.hid (HS.out.step (by first | exact h15 | exact (Since.alloc (Since.refl _) _).step h15 | exact (Since.alloc (Since.alloc (Since.refl _) _) _).step h15 | exact (Since.drew (Since.refl _)).step h15 | exact (Since.alloc (Since.alloc (Since.alloc (Since.refl _) _) _) _).step h15))
        clear h15
        go_wp2_with fail
        go_ret
        exact ⟨rfl, HS.out⟩
      · have t3 : decide ((200 : Int) < (c.size : Int)) = false := decide_eq_false (by omega)
        have t4 : decide ((200 : Int) < (t.size : Int)) = true := decide_eq_true (by omega)
        clear hb
        go_enter Try.func4, Try.ntmps4
        go_wp2_with fail
        refine (awake_mak.calls0) ?_
        intro w15 h15
        replace HS := Lib.hid (HS.out.step (by first | exact h15 | exact (Since.alloc (Since.refl _) _).step h15 | exact (Since.alloc (Since.alloc (Since.refl _) _) _).step h15 | exact (Since.drew (Since.refl _)).step h15 | exact (Since.alloc (Since.alloc (Since.alloc (Since.refl _) _) _) _).step h15))
        clear h15
        go_wp2_with fail
        go_ret
        exact ⟨rfl, HS.out⟩
theorem encS_len (a : List Int) : (encS a).size ≤ 1000000 := by
  unfold encS
  by_cases h : Ok a
  · rw [if_pos h, size_bs]
    have h2 := (ok_iff a).1 h
    rw [← encU_all a h (a.length - 2) (by omega)]
    exact Nat.le_trans (encU_len a h _) (by decide)
  · rw [if_neg h]; decide
theorem txtS_len (a : List Int) : (txtS a).size ≤ 1000000 := by
  unfold txtS
  by_cases h : Ok a
  · rw [if_pos h, size_bs]
    have h2 := (ok_iff a).1 h
    rw [← txtU_all a (a.length - 1) (by omega)]
    exact Nat.le_trans (txtU_len a h _ (by omega)) (by decide)
  · rw [if_neg h]; decide
theorem walk (w : World) (A0 : Option Addr) (n d0 : Nat) (a : List Int) (A1 : Option Addr) (m d1 : Nat) (b : List Int) (c t : ByteArray) (ha : IntsS w (.slice A0 n d0) a) (hn : n = a.length) (_hx : ∀ x ∈ a, (Lit.int .i64 x).wf = true) (hb : IntsS w (.slice A1 m d1) b) (hm : m = b.length) (_hy : ∀ x ∈ b, (Lit.int .i64 x).wf = true) (w2 : c.size ≤ maxLen) (w3 : t.size ≤ maxLen) :
    Calls Try.prog 4 #[.slice A0 n d0, .slice A1 m d1, .string c, .string t] w fun e w' => e = .returned (.bool true) ∧ Below w.heap.size w w' := by
  unfold maxLen at w2 w3
  have hl0 := ha.le
  have hl1 := hb.le
  by_cases hbig : 60 < n ∨ 60 < m ∨ 200 < c.size ∨ 200 < t.size
  · exact core_big w A0 A1 n m d0 d1 c t (by omega) (by omega) hbig
  · have q20 := decode_mk c (by omega) _ _ rfl rfl
    have q21 := parse_mk t (by omega) _ _ rfl rfl
    have q22 : decB c.data.toList = true → RdI 16 (decL c.data.toList) (.tuple #[.string c, .bool true]) := fun h => by
      obtain ⟨h1, h2⟩ := (dec_iff c.data.toList _).1 ⟨h, rfl⟩
      exact encode_rd _ c true (by rw [encS, if_pos h1, h2]; exact (bs_list c).symm) (decide_eq_true h1).symm
    have q23 : parB t.data.toList = true → RdI 27 (parL t.data.toList) (.string t) := fun h => by
      obtain ⟨h1, h2⟩ := (par_iff t.data.toList _).1 ⟨h, rfl⟩
      exact text_rd _ t (by rw [txtS, if_pos h1, h2]; exact (bs_list t).symm)
    by_cases ka : Ok a
    · have q3 := decode_mk (encS a) (encS_len a) a true (by rw [encS, if_pos ka, list_bs]; exact (((dec_iff _ a).2 ⟨ka, rfl⟩).2).symm) (by rw [encS, if_pos ka, list_bs]; exact (((dec_iff _ a).2 ⟨ka, rfl⟩).1).symm)
      have q5 := parse_mk (txtS a) (txtS_len a) a true (by rw [txtS, if_pos ka, list_bs]; exact (((par_iff _ a).2 ⟨ka, rfl⟩).2).symm) (by rw [txtS, if_pos ka, list_bs]; exact (((par_iff _ a).2 ⟨ka, rfl⟩).1).symm)
      have q4 := text_rd a _ rfl
      have q6 := eq_rd a a true (decide_eq_true rfl).symm
      by_cases kb : Ok b
      · refine core_both w A0 A1 n m d0 d1 a b c t ha hb (by omega) (by omega) (by omega) (by omega) (encS a) (encS b) _ _ _ (decide (a = b)) _ _ (encode_rd a _ true rfl (decide_eq_true ka).symm) (encode_rd b _ true rfl (decide_eq_true kb).symm) ?_ q3 q4 q5 q6 (eq_rd a b _ rfl) q20 q21 (Lib.hid q22) (Lib.hid q23)
        by_cases hab : a = b
        · rw [decide_eq_true hab]; exact str_eq_t (by rw [hab])
        · rw [decide_eq_false hab]
          refine str_ne_f (fun h => hab (enc_inj a b ka kb ?_))
          rw [encS, encS, if_pos ka, if_pos kb] at h
          have := congrArg (fun s : ByteArray => s.data.toList) h
          exact this
      · exact core_yes w A0 A1 n m d0 d1 a b c t ha hb (by omega) (by omega) (by omega) (by omega) (encS a) (encS b) _ _ _ _ _ (encode_rd a _ true rfl (decide_eq_true ka).symm) (encode_rd b _ false rfl (decide_eq_false kb).symm) q3 q4 q5 q6 q20 q21 (Lib.hid q22) (Lib.hid q23)
    · exact core_no w A0 A1 n m d0 d1 a b c t ha hb (by omega) (by omega) (by omega) (by omega) (encS a) (encS b) _ _ _ _ _ (encode_rd a _ false rfl (decide_eq_false ka).symm) (encode_rd b _ _ rfl rfl) q20 q21 (Lib.hid q22) (Lib.hid q23)

theorem own : ownKnob Try.prog.godebug = none := by kernel_rfl
theorem laidOut : laidOutB Try.prog = true := by kernel_rfl

set_option maxRecDepth 100000 in
theorem lifted (os : Os) (started : os.Started) (H : Type) (enc : TypeId × Value → H) :
    ReturnsInHanded {} Try.checked os 4 .any (Rows.oidBackSpec.pre6 enc Try.prog Try.f4 Rows.oidBackRow.domain false) (Rows.oidBackSpec.post enc Try.prog Try.f4 false true false false) := by
  refine returnsInHanded_of_change (C := Try.checked) own started (by kernel_rfl) Try.func4
    (ChangeSpec.witness6 (enc := enc) (C := Try.checked) false ⟨#[], #[.slice none 0 0, .slice none 0 0, .string ⟨#[]⟩, .string ⟨#[]⟩], []⟩ 8 (by kernel_rfl) (by kernel_rfl) (by kernel_rfl) (by kernel_rfl)) ?_
  intro W base args ds gs before hval0 hW hcnd _
  have hval : ∀ (j : Nat) t v, Try.f4.params[j]? = some t → args[j]? = some v → Value.okWide Try.prog W .any base t v := hval0
  have hW' := hW
  obtain ⟨p, q, hA0, hV, rfl, hfz, hnd⟩ := hW
  have hA : DataW.TrodAll enc Try.prog W 0 (fun _ => true) true Try.f4.params.toList args.toList ds p := hA0
  rw [Try.params4] at hA hval
  obtain ⟨v0, vs0, d0, ds0, p0, q0, hargs, rfl, rfl, h0, r0⟩ := trodAll_cons hA
  obtain ⟨v1, vs1, d1, ds1, p1, q1, rfl, rfl, rfl, h1, r1⟩ := trodAll_cons r0
  obtain ⟨v2, vs2, d2, ds2, p2, q2, rfl, rfl, rfl, h2, r2⟩ := trodAll_cons r1
  obtain ⟨v3, vs3, d3, ds3, p3, q3, rfl, rfl, rfl, h3, r3⟩ := trodAll_cons r2
  obtain ⟨rfl, rfl, rfl⟩ := trodAll_nil r3
  obtain rfl : args = #[v0, v1, v2, v3] := by cases args; simp_all
  obtain ⟨rfl, rfl⟩ := trodVars_none hV
  obtain ⟨a0, n0, c0, rfl⟩ := okWide_slice Try.underlying22 (hval 0 22 v0 rfl rfl)
  have h0k := h0
  obtain ⟨fuel0, hf0⟩ := h0
  have hlt0 : ∀ x ∈ p0, x.block < W.heap.size := fun x hx => by simpa using hW'.lt x (by simp [hx])
  obtain ⟨x0, hA0, hN0, hX0⟩ := ints_arg Try.underlying22 Try.underlying3 (by kernel_rfl) hf0 hlt0
  obtain ⟨a1, n1, c1, rfl⟩ := okWide_slice Try.underlying22 (hval 1 22 v1 rfl rfl)
  have h1k := h1
  obtain ⟨fuel1, hf1⟩ := h1
  have hlt1 : ∀ x ∈ p1, x.block < W.heap.size := fun x hx => by simpa using hW'.lt x (by simp [hx])
  obtain ⟨x1, hA1, hN1, hX1⟩ := ints_arg Try.underlying22 Try.underlying3 (by kernel_rfl) hf1 hlt1
  obtain ⟨a2, rfl, rfl, rfl, w2⟩ := Go.ChangeMaps.open_string Try.underlying9 (hval 2 9 v2 rfl rfl) h2
  obtain ⟨a3, rfl, rfl, rfl, w3⟩ := Go.ChangeMaps.open_string Try.underlying9 (hval 3 9 v3 rfl rfl) h3
  clear hA0 hval0
  simp only [List.append_nil] at hW'
  refine (walk W a0 n0 c0 x0 a1 n1 c1 x1 a2 a3 hA0 hN0 hX0 hA1 hN1 hX1 w2 w3).mono fun e W' ⟨he, hg⟩ => ?_
  subst he
  exact ⟨_, rfl, _, _, _, _, _, [], hW', (trodAll_cons_mk (shut_bool Try.underlying4 _) trodAll_mk0), (trodAll_cons_mk (Below.trod laidOut (by kernel_rfl) (of_decide_eq_true (by kernel_rfl)) h0k hg hlt0) (trodAll_cons_mk (Below.trod laidOut (by kernel_rfl) (of_decide_eq_true (by kernel_rfl)) h1k hg hlt1) (trodAll_cons_mk (Go.ChangeMaps.shut_string Try.underlying9 w2) (trodAll_cons_mk (Go.ChangeMaps.shut_string Try.underlying9 w3) trodAll_mk0)))), rfl, hg.frame _, fun h => by cases h⟩

theorem over : Rows.oidBackRow.holds Try.pinned (OpenSpec.ofChange Rows.oidBackSpec) :=
  OpenClaim.holds_of_wide 4 Try.f4 rfl rfl rfl rfl rfl rfl rfl ⟨rfl, rfl, rfl, rfl, rfl⟩ rfl rfl rfl rfl rfl (by kernel_rfl) Try.func4 (by kernel_rfl)
    (of_decide_eq_true (by kernel_rfl)) (by unfold Func.isWrapper; first | (rw [if_pos (by decide +kernel)]; kernel_rfl) | (rw [if_neg (by decide +kernel)]; exact ⟨rfl, rfl⟩))
    (fun os started H enc _ => lifted os started H enc)

theorem proved : Rows.OidBackSaid :=
  over

end Go.Proofs.Ytglilnlhgdhnmaa.oidBack
