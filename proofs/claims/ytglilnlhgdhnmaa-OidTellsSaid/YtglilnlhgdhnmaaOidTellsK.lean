/- The law OidTells: any arcs have the contents and the text, any contents and texts the arcs, that the document says; no conditions. -/
import Derived.Test.YtglilnlhgdhnmaaRows
import Derived.WalkKit
import Derived.ProofKit
import Derived.OpenShut
import Derived.Lib.Hide
import Derived.Test.YtglilnlhgdhnmaaPk20
namespace Go.Proofs.Ytglilnlhgdhnmaa.oidTells
open Go.ChangeShapes Go.WideShapes Go.ChangeAt Go.RowKit
open Oid

set_option maxRecDepth 100000 in
set_option maxHeartbeats 4000000 in
theorem core (w : World) (A0 A1 : Option Addr) (n m d0 d1 : Nat) (a b : List Int) (c t : ByteArray) (ha : IntsS w (.slice A0 n d0) a) (hb : IntsS w (.slice A1 m d1) b) (l0 : (n : Int) ≤ 60) (l1 : (m : Int) ≤ 60) (l2 : (c.size : Int) ≤ 200) (l3 : (t.size : Int) ≤ 200)
    (E T : ByteArray) (q f u r : Bool) (X Y : List Int)
    (c1 : RdI 16 a (.tuple #[.string E, .bool q])) (c2 : RdI 17 a (.tuple #[.string E, .bool q]))
    (c3 : MkI 18 #[.string c] X f) (c4 : MkI 19 #[.string c] X f)
    (c5 : RdI 20 a (.bool r)) (c6 : RdI 21 a (.bool r)) (c7 : RdII 22 X X (.bool true))
    (c8 : RdII 23 a b (.bool u)) (c9 : RdII 24 a b (.bool u)) (g : Bool)
    (c10 : MkI 25 #[.string t] Y g) (c11 : MkI 26 #[.string t] Y g) (c12 : RdII 22 Y Y (.bool true))
    (c13 : RdI 27 a (.string T)) (c14 : RdI 28 a (.string T)) :
    Calls Try.prog 3 #[.slice A0 n d0, .slice A1 m d1, .string c, .string t] w fun x w' => x = .returned (.bool true) ∧ Since w w' := by
  have HS := Lib.hid (Since.refl w)
  have HA := Lib.hid ha
  have HB := Lib.hid hb
  have t1 : decide ((60 : Int) < (n : Int)) = false := decide_eq_false (by omega)
  have t2 : decide ((60 : Int) < (m : Int)) = false := decide_eq_false (by omega)
  have t3 : decide ((200 : Int) < (c.size : Int)) = false := decide_eq_false (by omega)
  have t4 : decide ((200 : Int) < (t.size : Int)) = false := decide_eq_false (by omega)
  clear ha hb
  cases g
  all_goals
    go_enter Try.func3, Try.ntmps3
    go_wp2_with fail
    refine (c1.calls0 HA.out) ?_
    intro w1 h1
    replace HA := Lib.hid (HA.out.since (by first | exact h1 | exact (Since.alloc (Since.refl _) _).step h1 | exact (Since.alloc (Since.alloc (Since.refl _) _) _).step h1 | exact (Since.drew (Since.refl _)).step h1 | exact (Since.alloc (Since.alloc (Since.alloc (Since.refl _) _) _) _).step h1))
    replace HB := Lib.hid (HB.out.since (by first | exact h1 | exact (Since.alloc (Since.refl _) _).step h1 | exact (Since.alloc (Since.alloc (Since.refl _) _) _).step h1 | exact (Since.drew (Since.refl _)).step h1 | exact (Since.alloc (Since.alloc (Since.alloc (Since.refl _) _) _) _).step h1))
    replace HS := Lib.hid (HS.out.step (by first | exact h1 | exact (Since.alloc (Since.refl _) _).step h1 | exact (Since.alloc (Since.alloc (Since.refl _) _) _).step h1 | exact (Since.drew (Since.refl _)).step h1 | exact (Since.alloc (Since.alloc (Since.alloc (Since.refl _) _) _) _).step h1))
    clear h1
    go_wp2_with fail
    refine (c2.calls0 HA.out) ?_
    intro w2 h2
    replace HA := Lib.hid (HA.out.since (by first | exact h2 | exact (Since.alloc (Since.refl _) _).step h2 | exact (Since.alloc (Since.alloc (Since.refl _) _) _).step h2 | exact (Since.drew (Since.refl _)).step h2 | exact (Since.alloc (Since.alloc (Since.alloc (Since.refl _) _) _) _).step h2))
    replace HB := Lib.hid (HB.out.since (by first | exact h2 | exact (Since.alloc (Since.refl _) _).step h2 | exact (Since.alloc (Since.alloc (Since.refl _) _) _).step h2 | exact (Since.drew (Since.refl _)).step h2 | exact (Since.alloc (Since.alloc (Since.alloc (Since.refl _) _) _) _).step h2))
    replace HS := Lib.hid (HS.out.step (by first | exact h2 | exact (Since.alloc (Since.refl _) _).step h2 | exact (Since.alloc (Since.alloc (Since.refl _) _) _).step h2 | exact (Since.drew (Since.refl _)).step h2 | exact (Since.alloc (Since.alloc (Since.alloc (Since.refl _) _) _) _).step h2))
    clear h2
    go_wp2_with fail
    refine (c3.calls0) ?_
    intro v3 w3 hv3 h3
    have HV3 := Lib.hid hv3
    clear hv3
    replace HA := Lib.hid (HA.out.since (by first | exact h3 | exact (Since.alloc (Since.refl _) _).step h3 | exact (Since.alloc (Since.alloc (Since.refl _) _) _).step h3 | exact (Since.drew (Since.refl _)).step h3 | exact (Since.alloc (Since.alloc (Since.alloc (Since.refl _) _) _) _).step h3))
    replace HB := Lib.hid (HB.out.since (by first | exact h3 | exact (Since.alloc (Since.refl _) _).step h3 | exact (Since.alloc (Since.alloc (Since.refl _) _) _).step h3 | exact (Since.drew (Since.refl _)).step h3 | exact (Since.alloc (Since.alloc (Since.alloc (Since.refl _) _) _) _).step h3))
    replace HS := Lib.hid (HS.out.step (by first | exact h3 | exact (Since.alloc (Since.refl _) _).step h3 | exact (Since.alloc (Since.alloc (Since.refl _) _) _).step h3 | exact (Since.drew (Since.refl _)).step h3 | exact (Since.alloc (Since.alloc (Since.alloc (Since.refl _) _) _) _).step h3))
    clear h3
    go_wp2_with fail
    refine (c4.calls0) ?_
    intro v4 w4 hv4 h4
    have HV4 := Lib.hid hv4
    clear hv4
    replace HA := Lib.hid (HA.out.since (by first | exact h4 | exact (Since.alloc (Since.refl _) _).step h4 | exact (Since.alloc (Since.alloc (Since.refl _) _) _).step h4 | exact (Since.drew (Since.refl _)).step h4 | exact (Since.alloc (Since.alloc (Since.alloc (Since.refl _) _) _) _).step h4))
    replace HB := Lib.hid (HB.out.since (by first | exact h4 | exact (Since.alloc (Since.refl _) _).step h4 | exact (Since.alloc (Since.alloc (Since.refl _) _) _).step h4 | exact (Since.drew (Since.refl _)).step h4 | exact (Since.alloc (Since.alloc (Since.alloc (Since.refl _) _) _) _).step h4))
    replace HV3 := Lib.hid (HV3.out.since (by first | exact h4 | exact (Since.alloc (Since.refl _) _).step h4 | exact (Since.alloc (Since.alloc (Since.refl _) _) _).step h4 | exact (Since.drew (Since.refl _)).step h4 | exact (Since.alloc (Since.alloc (Since.alloc (Since.refl _) _) _) _).step h4))
    replace HS := Lib.hid (HS.out.step (by first | exact h4 | exact (Since.alloc (Since.refl _) _).step h4 | exact (Since.alloc (Since.alloc (Since.refl _) _) _).step h4 | exact (Since.drew (Since.refl _)).step h4 | exact (Since.alloc (Since.alloc (Since.alloc (Since.refl _) _) _) _).step h4))
    clear h4
    go_wp2_with fail
    refine (c5.calls0 HA.out) ?_
    intro w5 h5
    replace HA := Lib.hid (HA.out.since (by first | exact h5 | exact (Since.alloc (Since.refl _) _).step h5 | exact (Since.alloc (Since.alloc (Since.refl _) _) _).step h5 | exact (Since.drew (Since.refl _)).step h5 | exact (Since.alloc (Since.alloc (Since.alloc (Since.refl _) _) _) _).step h5))
    replace HB := Lib.hid (HB.out.since (by first | exact h5 | exact (Since.alloc (Since.refl _) _).step h5 | exact (Since.alloc (Since.alloc (Since.refl _) _) _).step h5 | exact (Since.drew (Since.refl _)).step h5 | exact (Since.alloc (Since.alloc (Since.alloc (Since.refl _) _) _) _).step h5))
    replace HV3 := Lib.hid (HV3.out.since (by first | exact h5 | exact (Since.alloc (Since.refl _) _).step h5 | exact (Since.alloc (Since.alloc (Since.refl _) _) _).step h5 | exact (Since.drew (Since.refl _)).step h5 | exact (Since.alloc (Since.alloc (Since.alloc (Since.refl _) _) _) _).step h5))
    replace HV4 := Lib.hid (HV4.out.since (by first | exact h5 | exact (Since.alloc (Since.refl _) _).step h5 | exact (Since.alloc (Since.alloc (Since.refl _) _) _).step h5 | exact (Since.drew (Since.refl _)).step h5 | exact (Since.alloc (Since.alloc (Since.alloc (Since.refl _) _) _) _).step h5))
    replace HS := Lib.hid (HS.out.step (by first | exact h5 | exact (Since.alloc (Since.refl _) _).step h5 | exact (Since.alloc (Since.alloc (Since.refl _) _) _).step h5 | exact (Since.drew (Since.refl _)).step h5 | exact (Since.alloc (Since.alloc (Since.alloc (Since.refl _) _) _) _).step h5))
    clear h5
    go_wp2_with fail
    refine (c6.calls0 HA.out) ?_
    intro w6 h6
    replace HA := Lib.hid (HA.out.since (by first | exact h6 | exact (Since.alloc (Since.refl _) _).step h6 | exact (Since.alloc (Since.alloc (Since.refl _) _) _).step h6 | exact (Since.drew (Since.refl _)).step h6 | exact (Since.alloc (Since.alloc (Since.alloc (Since.refl _) _) _) _).step h6))
    replace HB := Lib.hid (HB.out.since (by first | exact h6 | exact (Since.alloc (Since.refl _) _).step h6 | exact (Since.alloc (Since.alloc (Since.refl _) _) _).step h6 | exact (Since.drew (Since.refl _)).step h6 | exact (Since.alloc (Since.alloc (Since.alloc (Since.refl _) _) _) _).step h6))
    replace HV3 := Lib.hid (HV3.out.since (by first | exact h6 | exact (Since.alloc (Since.refl _) _).step h6 | exact (Since.alloc (Since.alloc (Since.refl _) _) _).step h6 | exact (Since.drew (Since.refl _)).step h6 | exact (Since.alloc (Since.alloc (Since.alloc (Since.refl _) _) _) _).step h6))
    replace HV4 := Lib.hid (HV4.out.since (by first | exact h6 | exact (Since.alloc (Since.refl _) _).step h6 | exact (Since.alloc (Since.alloc (Since.refl _) _) _).step h6 | exact (Since.drew (Since.refl _)).step h6 | exact (Since.alloc (Since.alloc (Since.alloc (Since.refl _) _) _) _).step h6))
    replace HS := Lib.hid (HS.out.step (by first | exact h6 | exact (Since.alloc (Since.refl _) _).step h6 | exact (Since.alloc (Since.alloc (Since.refl _) _) _).step h6 | exact (Since.drew (Since.refl _)).step h6 | exact (Since.alloc (Since.alloc (Since.alloc (Since.refl _) _) _) _).step h6))
    clear h6
    go_wp2_with fail
    refine (c7.calls0 HV3.out HV4.out) ?_
    intro w7 h7
    replace HA := Lib.hid (HA.out.since (by first | exact h7 | exact (Since.alloc (Since.refl _) _).step h7 | exact (Since.alloc (Since.alloc (Since.refl _) _) _).step h7 | exact (Since.drew (Since.refl _)).step h7 | exact (Since.alloc (Since.alloc (Since.alloc (Since.refl _) _) _) _).step h7))
    replace HB := Lib.hid (HB.out.since (by first | exact h7 | exact (Since.alloc (Since.refl _) _).step h7 | exact (Since.alloc (Since.alloc (Since.refl _) _) _).step h7 | exact (Since.drew (Since.refl _)).step h7 | exact (Since.alloc (Since.alloc (Since.alloc (Since.refl _) _) _) _).step h7))
    replace HS := Lib.hid (HS.out.step (by first | exact h7 | exact (Since.alloc (Since.refl _) _).step h7 | exact (Since.alloc (Since.alloc (Since.refl _) _) _).step h7 | exact (Since.drew (Since.refl _)).step h7 | exact (Since.alloc (Since.alloc (Since.alloc (Since.refl _) _) _) _).step h7))
    clear h7
    go_wp2_with fail
    refine (c8.calls0 HA.out HB.out) ?_
    intro w8 h8
    replace HA := Lib.hid (HA.out.since (by first | exact h8 | exact (Since.alloc (Since.refl _) _).step h8 | exact (Since.alloc (Since.alloc (Since.refl _) _) _).step h8 | exact (Since.drew (Since.refl _)).step h8 | exact (Since.alloc (Since.alloc (Since.alloc (Since.refl _) _) _) _).step h8))
    replace HB := Lib.hid (HB.out.since (by first | exact h8 | exact (Since.alloc (Since.refl _) _).step h8 | exact (Since.alloc (Since.alloc (Since.refl _) _) _).step h8 | exact (Since.drew (Since.refl _)).step h8 | exact (Since.alloc (Since.alloc (Since.alloc (Since.refl _) _) _) _).step h8))
    replace HS := Lib.hid (HS.out.step (by first | exact h8 | exact (Since.alloc (Since.refl _) _).step h8 | exact (Since.alloc (Since.alloc (Since.refl _) _) _).step h8 | exact (Since.drew (Since.refl _)).step h8 | exact (Since.alloc (Since.alloc (Since.alloc (Since.refl _) _) _) _).step h8))
    clear h8
    go_wp2_with fail
    refine (c9.calls0 HA.out HB.out) ?_
    intro w9 h9
    replace HA := Lib.hid (HA.out.since (by first | exact h9 | exact (Since.alloc (Since.refl _) _).step h9 | exact (Since.alloc (Since.alloc (Since.refl _) _) _).step h9 | exact (Since.drew (Since.refl _)).step h9 | exact (Since.alloc (Since.alloc (Since.alloc (Since.refl _) _) _) _).step h9))
    replace HB := Lib.hid (HB.out.since (by first | exact h9 | exact (Since.alloc (Since.refl _) _).step h9 | exact (Since.alloc (Since.alloc (Since.refl _) _) _).step h9 | exact (Since.drew (Since.refl _)).step h9 | exact (Since.alloc (Since.alloc (Since.alloc (Since.refl _) _) _) _).step h9))
    replace HS := Lib.hid (HS.out.step (by first | exact h9 | exact (Since.alloc (Since.refl _) _).step h9 | exact (Since.alloc (Since.alloc (Since.refl _) _) _).step h9 | exact (Since.drew (Since.refl _)).step h9 | exact (Since.alloc (Since.alloc (Since.alloc (Since.refl _) _) _) _).step h9))
    clear h9
    go_wp2_with fail
    refine (c10.calls0) ?_
    intro v10 w10 hv10 h10
    have HV10 := Lib.hid hv10
    clear hv10
    replace HA := Lib.hid (HA.out.since (by first | exact h10 | exact (Since.alloc (Since.refl _) _).step h10 | exact (Since.alloc (Since.alloc (Since.refl _) _) _).step h10 | exact (Since.drew (Since.refl _)).step h10 | exact (Since.alloc (Since.alloc (Since.alloc (Since.refl _) _) _) _).step h10))
    replace HS := Lib.hid (HS.out.step (by first | exact h10 | exact (Since.alloc (Since.refl _) _).step h10 | exact (Since.alloc (Since.alloc (Since.refl _) _) _).step h10 | exact (Since.drew (Since.refl _)).step h10 | exact (Since.alloc (Since.alloc (Since.alloc (Since.refl _) _) _) _).step h10))
    clear h10
    go_wp2_with fail
    refine (c11.calls0) ?_
    intro v11 w11 hv11 h11
    have HV11 := Lib.hid hv11
    clear hv11
    replace HA := Lib.hid (HA.out.since (by first | exact h11 | exact (Since.alloc (Since.refl _) _).step h11 | exact (Since.alloc (Since.alloc (Since.refl _) _) _).step h11 | exact (Since.drew (Since.refl _)).step h11 | exact (Since.alloc (Since.alloc (Since.alloc (Since.refl _) _) _) _).step h11))
    replace HV10 := Lib.hid (HV10.out.since (by first | exact h11 | exact (Since.alloc (Since.refl _) _).step h11 | exact (Since.alloc (Since.alloc (Since.refl _) _) _).step h11 | exact (Since.drew (Since.refl _)).step h11 | exact (Since.alloc (Since.alloc (Since.alloc (Since.refl _) _) _) _).step h11))
    replace HS := Lib.hid (HS.out.step (by first | exact h11 | exact (Since.alloc (Since.refl _) _).step h11 | exact (Since.alloc (Since.alloc (Since.refl _) _) _).step h11 | exact (Since.drew (Since.refl _)).step h11 | exact (Since.alloc (Since.alloc (Since.alloc (Since.refl _) _) _) _).step h11))
    clear h11
    go_wp2_with fail
    refine (c12.calls0 HV10.out HV11.out) ?_
    intro w12 h12
    replace HA := Lib.hid (HA.out.since (by first | exact h12 | exact (Since.alloc (Since.refl _) _).step h12 | exact (Since.alloc (Since.alloc (Since.refl _) _) _).step h12 | exact (Since.drew (Since.refl _)).step h12 | exact (Since.alloc (Since.alloc (Since.alloc (Since.refl _) _) _) _).step h12))
    replace HS := Lib.hid (HS.out.step (by first | exact h12 | exact (Since.alloc (Since.refl _) _).step h12 | exact (Since.alloc (Since.alloc (Since.refl _) _) _).step h12 | exact (Since.drew (Since.refl _)).step h12 | exact (Since.alloc (Since.alloc (Since.alloc (Since.refl _) _) _) _).step h12))
    clear h12
    go_wp2_with fail
    refine (c13.calls0 HA.out) ?_
    intro w13 h13
    replace HA := Lib.hid (HA.out.since (by first | exact h13 | exact (Since.alloc (Since.refl _) _).step h13 | exact (Since.alloc (Since.alloc (Since.refl _) _) _).step h13 | exact (Since.drew (Since.refl _)).step h13 | exact (Since.alloc (Since.alloc (Since.alloc (Since.refl _) _) _) _).step h13))
    replace HS := Lib.hid (HS.out.step (by first | exact h13 | exact (Since.alloc (Since.refl _) _).step h13 | exact (Since.alloc (Since.alloc (Since.refl _) _) _).step h13 | exact (Since.drew (Since.refl _)).step h13 | exact (Since.alloc (Since.alloc (Since.alloc (Since.refl _) _) _) _).step h13))
    clear h13
    go_wp2_with fail
    refine (c14.calls0 HA.out) ?_
    intro w14 h14
    replace HS := Lib.hid (HS.out.step (by first | exact h14 | exact (Since.alloc (Since.refl _) _).step h14 | exact (Since.alloc (Since.alloc (Since.refl _) _) _).step h14 | exact (Since.drew (Since.refl _)).step h14 | exact (Since.alloc (Since.alloc (Since.alloc (Since.refl _) _) _) _).step h14))
    clear h14
    go_wp2_with fail
    refine (awake_mak.calls0) ?_
    intro w15 h15
    replace HS := Lib.hid (HS.out.step (by first | exact h15 | exact (Since.alloc (Since.refl _) _).step h15 | exact (Since.alloc (Since.alloc (Since.refl _) _) _).step h15 | exact (Since.drew (Since.refl _)).step h15 | exact (Since.alloc (Since.alloc (Since.alloc (Since.refl _) _) _) _).step h15))
    clear h15
    go_wp2_with fail
    go_ret
    exact ⟨rfl, HS.out⟩
set_option maxRecDepth 100000 in
set_option maxHeartbeats 4000000 in
theorem core_big (w : World) (A0 A1 : Option Addr) (n m d0 d1 : Nat) (c t : ByteArray) (hl0 : n ≤ 9223372036854775807) (hl1 : m ≤ 9223372036854775807) (hb : 60 < n ∨ 60 < m ∨ 200 < c.size ∨ 200 < t.size) :
    Calls Try.prog 3 #[.slice A0 n d0, .slice A1 m d1, .string c, .string t] w fun x w' => x = .returned (.bool true) ∧ Since w w' := by
  have HS := Lib.hid (Since.refl w)
  by_cases h0 : 60 < n
  · have t1 : decide ((60 : Int) < (n : Int)) = true := decide_eq_true (by omega)
    clear hb
    go_enter Try.func3, Try.ntmps3
    go_wp2_with fail
    refine (awake_mak.calls0) ?_
    intro w15 h15
    replace HS := Lib.hid (HS.out.step (by first | exact h15 | exact (Since.alloc (Since.refl _) _).step h15 | exact (Since.alloc (Since.alloc (Since.refl _) _) _).step h15 | exact (Since.drew (Since.refl _)).step h15 | exact (Since.alloc (Since.alloc (Since.alloc (Since.refl _) _) _) _).step h15))
    clear h15
    go_wp2_with fail
    go_ret
    exact ⟨rfl, HS.out⟩
  · have t1 : decide ((60 : Int) < (n : Int)) = false := decide_eq_false (by omega)
    by_cases h1 : 60 < m
    · have t2 : decide ((60 : Int) < (m : Int)) = true := decide_eq_true (by omega)
      clear hb
      go_enter Try.func3, Try.ntmps3
      go_wp2_with fail
      refine (awake_mak.calls0) ?_
      intro w15 h15
      replace HS := Lib.hid (HS.out.step (by first | exact h15 | exact (Since.alloc (Since.refl _) _).step h15 | exact (Since.alloc (Since.alloc (Since.refl _) _) _).step h15 | exact (Since.drew (Since.refl _)).step h15 | exact (Since.alloc (Since.alloc (Since.alloc (Since.refl _) _) _) _).step h15))
      clear h15
      go_wp2_with fail
      go_ret
      exact ⟨rfl, HS.out⟩
    · have t2 : decide ((60 : Int) < (m : Int)) = false := decide_eq_false (by omega)
      by_cases h2 : 200 < c.size
      · have t3 : decide ((200 : Int) < (c.size : Int)) = true := decide_eq_true (by omega)
        clear hb
        go_enter Try.func3, Try.ntmps3
        go_wp2_with fail
        refine (awake_mak.calls0) ?_
        intro w15 h15
        replace HS := Lib.hid (HS.out.step (by first | exact h15 | exact (Since.alloc (Since.refl _) _).step h15 | exact (Since.alloc (Since.alloc (Since.refl _) _) _).step h15 | exact (Since.drew (Since.refl _)).step h15 | exact (Since.alloc (Since.alloc (Since.alloc (Since.refl _) _) _) _).step h15))
        clear h15
        go_wp2_with fail
        go_ret
        exact ⟨rfl, HS.out⟩
      · have t3 : decide ((200 : Int) < (c.size : Int)) = false := decide_eq_false (by omega)
        have t4 : decide ((200 : Int) < (t.size : Int)) = true := decide_eq_true (by omega)
        clear hb
        go_enter Try.func3, Try.ntmps3
        go_wp2_with fail
        refine (awake_mak.calls0) ?_
        intro w15 h15
        replace HS := Lib.hid (HS.out.step (by first | exact h15 | exact (Since.alloc (Since.refl _) _).step h15 | exact (Since.alloc (Since.alloc (Since.refl _) _) _).step h15 | exact (Since.drew (Since.refl _)).step h15 | exact (Since.alloc (Since.alloc (Since.alloc (Since.refl _) _) _) _).step h15))
        clear h15
        go_wp2_with fail
        go_ret
        exact ⟨rfl, HS.out⟩
theorem walk (w : World) (A0 : Option Addr) (n d0 : Nat) (a : List Int) (A1 : Option Addr) (m d1 : Nat) (b : List Int) (c t : ByteArray) (ha : IntsS w (.slice A0 n d0) a) (hn : n = a.length) (_hx : ∀ x ∈ a, (Lit.int .i64 x).wf = true) (hb : IntsS w (.slice A1 m d1) b) (hm : m = b.length) (_hy : ∀ x ∈ b, (Lit.int .i64 x).wf = true) (w2 : c.size ≤ maxLen) (w3 : t.size ≤ maxLen) :
    Calls Try.prog 3 #[.slice A0 n d0, .slice A1 m d1, .string c, .string t] w fun e w' => e = .returned (.bool true) ∧ Below w.heap.size w w' := by
  unfold maxLen at w2 w3
  have hl0 := ha.le
  have hl1 := hb.le
  by_cases hbig : 60 < n ∨ 60 < m ∨ 200 < c.size ∨ 200 < t.size
  · exact core_big w A0 A1 n m d0 d1 c t (by omega) (by omega) hbig
  · exact core w A0 A1 n m d0 d1 a b c t ha hb (by omega) (by omega) (by omega) (by omega) _ _ _ _ _ _ _ _
      (encode_rd a _ _ rfl rfl) (rencode_rd a _ _ rfl rfl) (decode_mk c (by omega) _ _ rfl rfl) (rdecode_mk c (by omega) _ _ rfl rfl) (right_rd a _ rfl) (rright_rd a _ rfl) (eq_rd _ _ _ (decide_eq_true rfl).symm)
      (under_rd a b _ rfl) (runder_rd a b _ rfl) _ (parse_mk t (by omega) _ _ rfl rfl) (rparse_mk t (by omega) _ _ rfl rfl) (eq_rd _ _ _ (decide_eq_true rfl).symm) (text_rd a _ rfl) (rtext_rd a _ rfl)

theorem own : ownKnob Try.prog.godebug = none := by kernel_rfl
theorem laidOut : laidOutB Try.prog = true := by kernel_rfl

set_option maxRecDepth 100000 in
theorem lifted (os : Os) (started : os.Started) (H : Type) (enc : TypeId × Value → H) :
    ReturnsInHanded {} Try.checked os 3 .any (Rows.oidTellsSpec.pre6 enc Try.prog Try.f3 Rows.oidTellsRow.domain false) (Rows.oidTellsSpec.post enc Try.prog Try.f3 false true false false) := by
  refine returnsInHanded_of_change (C := Try.checked) own started (by kernel_rfl) Try.func3
    (ChangeSpec.witness6 (enc := enc) (C := Try.checked) false ⟨#[], #[.slice none 0 0, .slice none 0 0, .string ⟨#[]⟩, .string ⟨#[]⟩], []⟩ 8 (by kernel_rfl) (by kernel_rfl) (by kernel_rfl) (by kernel_rfl)) ?_
  intro W base args ds gs before hval0 hW hcnd _
  have hval : ∀ (j : Nat) t v, Try.f3.params[j]? = some t → args[j]? = some v → Value.okWide Try.prog W .any base t v := hval0
  have hW' := hW
  obtain ⟨p, q, hA0, hV, rfl, hfz, hnd⟩ := hW
  have hA : DataW.TrodAll enc Try.prog W 0 (fun _ => true) true Try.f3.params.toList args.toList ds p := hA0
  rw [Try.params3] at hA hval
  obtain ⟨v0, vs0, d0, ds0, p0, q0, hargs, rfl, rfl, h0, r0⟩ := trodAll_cons hA
  obtain ⟨v1, vs1, d1, ds1, p1, q1, rfl, rfl, rfl, h1, r1⟩ := trodAll_cons r0
  obtain ⟨v2, vs2, d2, ds2, p2, q2, rfl, rfl, rfl, h2, r2⟩ := trodAll_cons r1
  obtain ⟨v3, vs3, d3, ds3, p3, q3, rfl, rfl, rfl, h3, r3⟩ := trodAll_cons r2
  obtain ⟨rfl, rfl, rfl⟩ := trodAll_nil r3
  obtain rfl : args = #[v0, v1, v2, v3] := by cases args; simp_all
  obtain ⟨rfl, rfl⟩ := trodVars_none hV
  obtain ⟨a0, n0, c0, rfl⟩ := okWide_slice Try.underlying22 (hval 0 22 v0 rfl rfl)
  have h0k := h0
  obtain ⟨fuel0, hf0⟩ := h0
  have hlt0 : ∀ x ∈ p0, x.block < W.heap.size := fun x hx => by simpa using hW'.lt x (by simp [hx])
  obtain ⟨x0, hA0, hN0, hX0⟩ := ints_arg Try.underlying22 Try.underlying3 (by kernel_rfl) hf0 hlt0
  obtain ⟨a1, n1, c1, rfl⟩ := okWide_slice Try.underlying22 (hval 1 22 v1 rfl rfl)
  have h1k := h1
  obtain ⟨fuel1, hf1⟩ := h1
  have hlt1 : ∀ x ∈ p1, x.block < W.heap.size := fun x hx => by simpa using hW'.lt x (by simp [hx])
  obtain ⟨x1, hA1, hN1, hX1⟩ := ints_arg Try.underlying22 Try.underlying3 (by kernel_rfl) hf1 hlt1
  obtain ⟨a2, rfl, rfl, rfl, w2⟩ := Go.ChangeMaps.open_string Try.underlying9 (hval 2 9 v2 rfl rfl) h2
  obtain ⟨a3, rfl, rfl, rfl, w3⟩ := Go.ChangeMaps.open_string Try.underlying9 (hval 3 9 v3 rfl rfl) h3
  clear hA0 hval0
  simp only [List.append_nil] at hW'
  refine (walk W a0 n0 c0 x0 a1 n1 c1 x1 a2 a3 hA0 hN0 hX0 hA1 hN1 hX1 w2 w3).mono fun e W' ⟨he, hg⟩ => ?_
  subst he
  exact ⟨_, rfl, _, _, _, _, _, [], hW', (trodAll_cons_mk (shut_bool Try.underlying4 _) trodAll_mk0), (trodAll_cons_mk (Below.trod laidOut (by kernel_rfl) (of_decide_eq_true (by kernel_rfl)) h0k hg hlt0) (trodAll_cons_mk (Below.trod laidOut (by kernel_rfl) (of_decide_eq_true (by kernel_rfl)) h1k hg hlt1) (trodAll_cons_mk (Go.ChangeMaps.shut_string Try.underlying9 w2) (trodAll_cons_mk (Go.ChangeMaps.shut_string Try.underlying9 w3) trodAll_mk0)))), rfl, hg.frame _, fun h => by cases h⟩

theorem over : Rows.oidTellsRow.holds Try.pinned (OpenSpec.ofChange Rows.oidTellsSpec) :=
  OpenClaim.holds_of_wide 3 Try.f3 rfl rfl rfl rfl rfl rfl rfl ⟨rfl, rfl, rfl, rfl, rfl⟩ rfl rfl rfl rfl rfl (by kernel_rfl) Try.func3 (by kernel_rfl)
    (of_decide_eq_true (by kernel_rfl)) (by unfold Func.isWrapper; first | (rw [if_pos (by decide +kernel)]; kernel_rfl) | (rw [if_neg (by decide +kernel)]; exact ⟨rfl, rfl⟩))
    (fun os started H enc _ => lifted os started H enc)

theorem proved : Rows.OidTellsSaid :=
  over

end Go.Proofs.Ytglilnlhgdhnmaa.oidTells
