/- The law TemplBack: what is written is read as it was, what is read is written so again; no conditions. -/
import Derived.Test.YtoledeeefcbgnaaRows
import Derived.WalkKit
import Derived.ProofKit
import Derived.OpenShut
import Derived.Lib.Hide
import Derived.Test.YtoledeeefcbgnaaTp15
namespace Go.Proofs.Ytoledeeefcbgnaa.templBack
open Go.ChangeShapes Go.WideShapes Go.ChangeAt Go.RowKit
open Att Templ

set_option maxRecDepth 100000 in
set_option maxHeartbeats 8000000 in
theorem core_110 (w : World) (A : Option Addr) (n c : Nat) (l : List A2) (t : ByteArray) (hx : AttsS w (.slice A n c) l) (l1 : t.size ≤ 2000)
    (cF : RdA 6 l (fun x => #[x, .int .i64 60]) (.bool true)) (X : ByteArray) (c1 : RdA 8 l (fun x => #[x]) (.tuple #[.string X, .int .i64 0])) (c2 : MkA 10 #[.string X] l 0) (O : List P2) (c3 : MkP 13 l O 0) (c4 : MkF 15 O l 0) (_L : List A2) (E : Int) (_hE : E ≠ 0) (e1 : (E != 0) = true) (_e2 : (E == 0) = false) (Y : ByteArray) (F : Int) (c5 : MkA 10 #[.string t] [] E) (c6 : RdA 8 [] (fun x => #[x]) (.tuple #[.string Y, .int .i64 F])) :
    Calls Try.prog 5 #[.slice A n c, .string t] w fun x w' => x = .returned (.bool true) ∧ Since w w' := by
  have HS := Lib.hid (Since.refl w)
  have HX := Lib.hid hx
  have t1 : decide ((2000 : Int) < (t.size : Int)) = false := decide_eq_false (by omega)
  have cA := awake_mak
  have cE := attrs_same l
  clear hx
  go_enter Try.func5, Try.ntmps5
  go_wp2_with fail
  refine (cF.calls0 HX.out) ?_
  intro w1 h1
  replace HX := Lib.hid (HX.out.since (by first | exact h1 | exact (Since.alloc (Since.refl _) _).step h1 | exact (Since.alloc (Since.alloc (Since.refl _) _) _).step h1 | exact (Since.drew (Since.refl _)).step h1 | exact (Since.alloc (Since.alloc (Since.alloc (Since.refl _) _) _) _).step h1))
  replace HS := Lib.hid (HS.out.step (by first | exact h1 | exact (Since.alloc (Since.refl _) _).step h1 | exact (Since.alloc (Since.alloc (Since.refl _) _) _).step h1 | exact (Since.drew (Since.refl _)).step h1 | exact (Since.alloc (Since.alloc (Since.alloc (Since.refl _) _) _) _).step h1))
  clear h1
  go_wp2_with fail
  refine (c1.calls0 HX.out) ?_
  intro w2 h2
  replace HX := Lib.hid (HX.out.since (by first | exact h2 | exact (Since.alloc (Since.refl _) _).step h2 | exact (Since.alloc (Since.alloc (Since.refl _) _) _).step h2 | exact (Since.drew (Since.refl _)).step h2 | exact (Since.alloc (Since.alloc (Since.alloc (Since.refl _) _) _) _).step h2))
  replace HS := Lib.hid (HS.out.step (by first | exact h2 | exact (Since.alloc (Since.refl _) _).step h2 | exact (Since.alloc (Since.alloc (Since.refl _) _) _).step h2 | exact (Since.drew (Since.refl _)).step h2 | exact (Since.alloc (Since.alloc (Since.alloc (Since.refl _) _) _) _).step h2))
  clear h2
  go_wp2_with fail
  refine (c2.calls0) ?_
  intro v3 w3 hv3 h3
  have HV3 := Lib.hid hv3
  clear hv3
  replace HX := Lib.hid (HX.out.since (by first | exact h3 | exact (Since.alloc (Since.refl _) _).step h3 | exact (Since.alloc (Since.alloc (Since.refl _) _) _).step h3 | exact (Since.drew (Since.refl _)).step h3 | exact (Since.alloc (Since.alloc (Since.alloc (Since.refl _) _) _) _).step h3))
  replace HS := Lib.hid (HS.out.step (by first | exact h3 | exact (Since.alloc (Since.refl _) _).step h3 | exact (Since.alloc (Since.alloc (Since.refl _) _) _).step h3 | exact (Since.drew (Since.refl _)).step h3 | exact (Since.alloc (Since.alloc (Since.alloc (Since.refl _) _) _) _).step h3))
  clear h3
  go_wp2_with fail
  refine (cE.calls0 HV3.out HX.out) ?_
  intro w4 h4
  replace HX := Lib.hid (HX.out.since (by first | exact h4 | exact (Since.alloc (Since.refl _) _).step h4 | exact (Since.alloc (Since.alloc (Since.refl _) _) _).step h4 | exact (Since.drew (Since.refl _)).step h4 | exact (Since.alloc (Since.alloc (Since.alloc (Since.refl _) _) _) _).step h4))
  replace HS := Lib.hid (HS.out.step (by first | exact h4 | exact (Since.alloc (Since.refl _) _).step h4 | exact (Since.alloc (Since.alloc (Since.refl _) _) _).step h4 | exact (Since.drew (Since.refl _)).step h4 | exact (Since.alloc (Since.alloc (Since.alloc (Since.refl _) _) _) _).step h4))
  clear h4
  go_wp2_with fail
  refine (c3.calls0 HX.out) ?_
  intro v5 w5 hv5 h5
  have HV5 := Lib.hid hv5
  clear hv5
  replace HX := Lib.hid (HX.out.since (by first | exact h5 | exact (Since.alloc (Since.refl _) _).step h5 | exact (Since.alloc (Since.alloc (Since.refl _) _) _).step h5 | exact (Since.drew (Since.refl _)).step h5 | exact (Since.alloc (Since.alloc (Since.alloc (Since.refl _) _) _) _).step h5))
  replace HS := Lib.hid (HS.out.step (by first | exact h5 | exact (Since.alloc (Since.refl _) _).step h5 | exact (Since.alloc (Since.alloc (Since.refl _) _) _).step h5 | exact (Since.drew (Since.refl _)).step h5 | exact (Since.alloc (Since.alloc (Since.alloc (Since.refl _) _) _) _).step h5))
  clear h5
  go_wp2_with fail
  refine (c4.calls0 HV5.out) ?_
  intro v6 w6 hv6 h6
  have HV6 := Lib.hid hv6
  clear hv6
  replace HX := Lib.hid (HX.out.since (by first | exact h6 | exact (Since.alloc (Since.refl _) _).step h6 | exact (Since.alloc (Since.alloc (Since.refl _) _) _).step h6 | exact (Since.drew (Since.refl _)).step h6 | exact (Since.alloc (Since.alloc (Since.alloc (Since.refl _) _) _) _).step h6))
  replace HS := Lib.hid (HS.out.step (by first | exact h6 | exact (Since.alloc (Since.refl _) _).step h6 | exact (Since.alloc (Since.alloc (Since.refl _) _) _).step h6 | exact (Since.drew (Since.refl _)).step h6 | exact (Since.alloc (Since.alloc (Since.alloc (Since.refl _) _) _) _).step h6))
  clear h6
  go_wp2_with fail
  refine (cE.calls0 HV6.out HX.out) ?_
  intro w7 h7
  replace HX := Lib.hid (HX.out.since (by first | exact h7 | exact (Since.alloc (Since.refl _) _).step h7 | exact (Since.alloc (Since.alloc (Since.refl _) _) _).step h7 | exact (Since.drew (Since.refl _)).step h7 | exact (Since.alloc (Since.alloc (Since.alloc (Since.refl _) _) _) _).step h7))
  replace HS := Lib.hid (HS.out.step (by first | exact h7 | exact (Since.alloc (Since.refl _) _).step h7 | exact (Since.alloc (Since.alloc (Since.refl _) _) _).step h7 | exact (Since.drew (Since.refl _)).step h7 | exact (Since.alloc (Since.alloc (Since.alloc (Since.refl _) _) _) _).step h7))
  clear h7
  go_wp2_with fail
  refine (c5.calls0) ?_
  intro v8 w8 hv8 h8
  replace HS := Lib.hid (HS.out.step h8)
  have HV8 := Lib.hid hv8
  obtain ⟨B, d, rfl, _⟩ := hv8.empty rfl
  clear hv8 h8
  go_wp2_with fail
  refine (c6.calls0 HV8.out) ?_
  intro w9 h9
  replace HS := Lib.hid (HS.out.step (by first | exact h9 | exact (Since.alloc (Since.refl _) _).step h9 | exact (Since.alloc (Since.alloc (Since.refl _) _) _).step h9 | exact (Since.drew (Since.refl _)).step h9 | exact (Since.alloc (Since.alloc (Since.alloc (Since.refl _) _) _) _).step h9))
  clear h9
  go_wp2_with fail
  refine (cA.calls0) ?_
  intro w10 h10
  replace HS := Lib.hid (HS.out.step (by first | exact h10 | exact (Since.alloc (Since.refl _) _).step h10 | exact (Since.alloc (Since.alloc (Since.refl _) _) _).step h10 | exact (Since.drew (Since.refl _)).step h10 | exact (Since.alloc (Since.alloc (Since.alloc (Since.refl _) _) _) _).step h10))
  clear h10
  go_wp2_with fail
  go_ret
  exact ⟨rfl, HS.out⟩
set_option maxRecDepth 100000 in
set_option maxHeartbeats 8000000 in
theorem core_111 (w : World) (A : Option Addr) (n c : Nat) (l : List A2) (t : ByteArray) (hx : AttsS w (.slice A n c) l) (l1 : t.size ≤ 2000)
    (cF : RdA 6 l (fun x => #[x, .int .i64 60]) (.bool true)) (X : ByteArray) (c1 : RdA 8 l (fun x => #[x]) (.tuple #[.string X, .int .i64 0])) (c2 : MkA 10 #[.string X] l 0) (O : List P2) (c3 : MkP 13 l O 0) (c4 : MkF 15 O l 0) (L : List A2) (_e1 : (t.toList == t.toList) = true) (c5 : MkA 10 #[.string t] L 0) (c6 : RdA 8 L (fun x => #[x]) (.tuple #[.string t, .int .i64 0])) :
    Calls Try.prog 5 #[.slice A n c, .string t] w fun x w' => x = .returned (.bool true) ∧ Since w w' := by
  have HS := Lib.hid (Since.refl w)
  have HX := Lib.hid hx
  have t1 : decide ((2000 : Int) < (t.size : Int)) = false := decide_eq_false (by omega)
  have cA := awake_mak
  have cE := attrs_same l
  clear hx
  go_enter Try.func5, Try.ntmps5
  go_wp2_with fail
  refine (cF.calls0 HX.out) ?_
  intro w1 h1
  replace HX := Lib.hid (HX.out.since (by first | exact h1 | exact (Since.alloc (Since.refl _) _).step h1 | exact (Since.alloc (Since.alloc (Since.refl _) _) _).step h1 | exact (Since.drew (Since.refl _)).step h1 | exact (Since.alloc (Since.alloc (Since.alloc (Since.refl _) _) _) _).step h1))
  replace HS := Lib.hid (HS.out.step (by first | exact h1 | exact (Since.alloc (Since.refl _) _).step h1 | exact (Since.alloc (Since.alloc (Since.refl _) _) _).step h1 | exact (Since.drew (Since.refl _)).step h1 | exact (Since.alloc (Since.alloc (Since.alloc (Since.refl _) _) _) _).step h1))
  clear h1
  go_wp2_with fail
  refine (c1.calls0 HX.out) ?_
  intro w2 h2
  replace HX := Lib.hid (HX.out.since (by first | exact h2 | exact (Since.alloc (Since.refl _) _).step h2 | exact (Since.alloc (Since.alloc (Since.refl _) _) _).step h2 | exact (Since.drew (Since.refl _)).step h2 | exact (Since.alloc (Since.alloc (Since.alloc (Since.refl _) _) _) _).step h2))
  replace HS := Lib.hid (HS.out.step (by first | exact h2 | exact (Since.alloc (Since.refl _) _).step h2 | exact (Since.alloc (Since.alloc (Since.refl _) _) _).step h2 | exact (Since.drew (Since.refl _)).step h2 | exact (Since.alloc (Since.alloc (Since.alloc (Since.refl _) _) _) _).step h2))
  clear h2
  go_wp2_with fail
  refine (c2.calls0) ?_
  intro v3 w3 hv3 h3
  have HV3 := Lib.hid hv3
  clear hv3
  replace HX := Lib.hid (HX.out.since (by first | exact h3 | exact (Since.alloc (Since.refl _) _).step h3 | exact (Since.alloc (Since.alloc (Since.refl _) _) _).step h3 | exact (Since.drew (Since.refl _)).step h3 | exact (Since.alloc (Since.alloc (Since.alloc (Since.refl _) _) _) _).step h3))
  replace HS := Lib.hid (HS.out.step (by first | exact h3 | exact (Since.alloc (Since.refl _) _).step h3 | exact (Since.alloc (Since.alloc (Since.refl _) _) _).step h3 | exact (Since.drew (Since.refl _)).step h3 | exact (Since.alloc (Since.alloc (Since.alloc (Since.refl _) _) _) _).step h3))
  clear h3
  go_wp2_with fail
  refine (cE.calls0 HV3.out HX.out) ?_
  intro w4 h4
  replace HX := Lib.hid (HX.out.since (by first | exact h4 | exact (Since.alloc (Since.refl _) _).step h4 | exact (Since.alloc (Since.alloc (Since.refl _) _) _).step h4 | exact (Since.drew (Since.refl _)).step h4 | exact (Since.alloc (Since.alloc (Since.alloc (Since.refl _) _) _) _).step h4))
  replace HS := Lib.hid (HS.out.step (by first | exact h4 | exact (Since.alloc (Since.refl _) _).step h4 | exact (Since.alloc (Since.alloc (Since.refl _) _) _).step h4 | exact (Since.drew (Since.refl _)).step h4 | exact (Since.alloc (Since.alloc (Since.alloc (Since.refl _) _) _) _).step h4))
  clear h4
  go_wp2_with fail
  refine (c3.calls0 HX.out) ?_
  intro v5 w5 hv5 h5
  have HV5 := Lib.hid hv5
  clear hv5
  replace HX := Lib.hid (HX.out.since (by first | exact h5 | exact (Since.alloc (Since.refl _) _).step h5 | exact (Since.alloc (Since.alloc (Since.refl _) _) _).step h5 | exact (Since.drew (Since.refl _)).step h5 | exact (Since.alloc (Since.alloc (Since.alloc (Since.refl _) _) _) _).step h5))
  replace HS := Lib.hid (HS.out.step (by first | exact h5 | exact (Since.alloc (Since.refl _) _).step h5 | exact (Since.alloc (Since.alloc (Since.refl _) _) _).step h5 | exact (Since.drew (Since.refl _)).step h5 | exact (Since.alloc (Since.alloc (Since.alloc (Since.refl _) _) _) _).step h5))
  clear h5
  go_wp2_with fail
  refine (c4.calls0 HV5.out) ?_
  intro v6 w6 hv6 h6
  have HV6 := Lib.hid hv6
  clear hv6
  replace HX := Lib.hid (HX.out.since (by first | exact h6 | exact (Since.alloc (Since.refl _) _).step h6 | exact (Since.alloc (Since.alloc (Since.refl _) _) _).step h6 | exact (Since.drew (Since.refl _)).step h6 | exact (Since.alloc (Since.alloc (Since.alloc (Since.refl _) _) _) _).step h6))
  replace HS := Lib.hid (HS.out.step (by first | exact h6 | exact (Since.alloc (Since.refl _) _).step h6 | exact (Since.alloc (Since.alloc (Since.refl _) _) _).step h6 | exact (Since.drew (Since.refl _)).step h6 | exact (Since.alloc (Since.alloc (Since.alloc (Since.refl _) _) _) _).step h6))
  clear h6
  go_wp2_with fail
  refine (cE.calls0 HV6.out HX.out) ?_
  intro w7 h7
  replace HX := Lib.hid (HX.out.since (by first | exact h7 | exact (Since.alloc (Since.refl _) _).step h7 | exact (Since.alloc (Since.alloc (Since.refl _) _) _).step h7 | exact (Since.drew (Since.refl _)).step h7 | exact (Since.alloc (Since.alloc (Since.alloc (Since.refl _) _) _) _).step h7))
  replace HS := Lib.hid (HS.out.step (by first | exact h7 | exact (Since.alloc (Since.refl _) _).step h7 | exact (Since.alloc (Since.alloc (Since.refl _) _) _).step h7 | exact (Since.drew (Since.refl _)).step h7 | exact (Since.alloc (Since.alloc (Since.alloc (Since.refl _) _) _) _).step h7))
  clear h7
  go_wp2_with fail
  refine (c5.calls0) ?_
  intro v8 w8 hv8 h8
  have HV8 := Lib.hid hv8
  clear hv8
  replace HS := Lib.hid (HS.out.step (by first | exact h8 | exact (Since.alloc (Since.refl _) _).step h8 | exact (Since.alloc (Since.alloc (Since.refl _) _) _).step h8 | exact (Since.drew (Since.refl _)).step h8 | exact (Since.alloc (Since.alloc (Since.alloc (Since.refl _) _) _) _).step h8))
  clear h8
  go_wp2_with fail
  refine (c6.calls0 HV8.out) ?_
  intro w9 h9
  replace HS := Lib.hid (HS.out.step (by first | exact h9 | exact (Since.alloc (Since.refl _) _).step h9 | exact (Since.alloc (Since.alloc (Since.refl _) _) _).step h9 | exact (Since.drew (Since.refl _)).step h9 | exact (Since.alloc (Since.alloc (Since.alloc (Since.refl _) _) _) _).step h9))
  clear h9
  go_wp2_with fail
  refine (cA.calls0) ?_
  intro w10 h10
  replace HS := Lib.hid (HS.out.step (by first | exact h10 | exact (Since.alloc (Since.refl _) _).step h10 | exact (Since.alloc (Since.alloc (Since.refl _) _) _).step h10 | exact (Since.drew (Since.refl _)).step h10 | exact (Since.alloc (Since.alloc (Since.alloc (Since.refl _) _) _) _).step h10))
  clear h10
  go_wp2_with fail
  go_ret
  exact ⟨rfl, HS.out⟩
set_option maxRecDepth 100000 in
set_option maxHeartbeats 8000000 in
theorem core_100 (w : World) (A : Option Addr) (n c : Nat) (l : List A2) (t : ByteArray) (hx : AttsS w (.slice A n c) l) (l1 : t.size ≤ 2000)
    (cF : RdA 6 l (fun x => #[x, .int .i64 60]) (.bool true)) (X : ByteArray) (c1 : RdA 8 l (fun x => #[x]) (.tuple #[.string X, .int .i64 0])) (c2 : MkA 10 #[.string X] l 0) (G : Int) (e3 : (G == 0) = false) (O : List P2) (c3 : MkP 13 l O G) (_L : List A2) (E : Int) (_hE : E ≠ 0) (e1 : (E != 0) = true) (_e2 : (E == 0) = false) (Y : ByteArray) (F : Int) (c5 : MkA 10 #[.string t] [] E) (c6 : RdA 8 [] (fun x => #[x]) (.tuple #[.string Y, .int .i64 F])) :
    Calls Try.prog 5 #[.slice A n c, .string t] w fun x w' => x = .returned (.bool true) ∧ Since w w' := by
  have HS := Lib.hid (Since.refl w)
  have HX := Lib.hid hx
  have t1 : decide ((2000 : Int) < (t.size : Int)) = false := decide_eq_false (by omega)
  have cA := awake_mak
  have cE := attrs_same l
  clear hx
  go_enter Try.func5, Try.ntmps5
  go_wp2_with fail
  refine (cF.calls0 HX.out) ?_
  intro w1 h1
  replace HX := Lib.hid (HX.out.since (by first | exact h1 | exact (Since.alloc (Since.refl _) _).step h1 | exact (Since.alloc (Since.alloc (Since.refl _) _) _).step h1 | exact (Since.drew (Since.refl _)).step h1 | exact (Since.alloc (Since.alloc (Since.alloc (Since.refl _) _) _) _).step h1))
  replace HS := Lib.hid (HS.out.step (by first | exact h1 | exact (Since.alloc (Since.refl _) _).step h1 | exact (Since.alloc (Since.alloc (Since.refl _) _) _).step h1 | exact (Since.drew (Since.refl _)).step h1 | exact (Since.alloc (Since.alloc (Since.alloc (Since.refl _) _) _) _).step h1))
  clear h1
  go_wp2_with fail
  refine (c1.calls0 HX.out) ?_
  intro w2 h2
  replace HX := Lib.hid (HX.out.since (by first | exact h2 | exact (Since.alloc (Since.refl _) _).step h2 | exact (Since.alloc (Since.alloc (Since.refl _) _) _).step h2 | exact (Since.drew (Since.refl _)).step h2 | exact (Since.alloc (Since.alloc (Since.alloc (Since.refl _) _) _) _).step h2))
  replace HS := Lib.hid (HS.out.step (by first | exact h2 | exact (Since.alloc (Since.refl _) _).step h2 | exact (Since.alloc (Since.alloc (Since.refl _) _) _).step h2 | exact (Since.drew (Since.refl _)).step h2 | exact (Since.alloc (Since.alloc (Since.alloc (Since.refl _) _) _) _).step h2))
  clear h2
  go_wp2_with fail
  refine (c2.calls0) ?_
  intro v3 w3 hv3 h3
  have HV3 := Lib.hid hv3
  clear hv3
  replace HX := Lib.hid (HX.out.since (by first | exact h3 | exact (Since.alloc (Since.refl _) _).step h3 | exact (Since.alloc (Since.alloc (Since.refl _) _) _).step h3 | exact (Since.drew (Since.refl _)).step h3 | exact (Since.alloc (Since.alloc (Since.alloc (Since.refl _) _) _) _).step h3))
  replace HS := Lib.hid (HS.out.step (by first | exact h3 | exact (Since.alloc (Since.refl _) _).step h3 | exact (Since.alloc (Since.alloc (Since.refl _) _) _).step h3 | exact (Since.drew (Since.refl _)).step h3 | exact (Since.alloc (Since.alloc (Since.alloc (Since.refl _) _) _) _).step h3))
  clear h3
  go_wp2_with fail
  refine (cE.calls0 HV3.out HX.out) ?_
  intro w4 h4
  replace HX := Lib.hid (HX.out.since (by first | exact h4 | exact (Since.alloc (Since.refl _) _).step h4 | exact (Since.alloc (Since.alloc (Since.refl _) _) _).step h4 | exact (Since.drew (Since.refl _)).step h4 | exact (Since.alloc (Since.alloc (Since.alloc (Since.refl _) _) _) _).step h4))
  replace HS := Lib.hid (HS.out.step (by first | exact h4 | exact (Since.alloc (Since.refl _) _).step h4 | exact (Since.alloc (Since.alloc (Since.refl _) _) _).step h4 | exact (Since.drew (Since.refl _)).step h4 | exact (Since.alloc (Since.alloc (Since.alloc (Since.refl _) _) _) _).step h4))
  clear h4
  go_wp2_with fail
  refine (c3.calls0 HX.out) ?_
  intro v5 w5 hv5 h5
  have HV5 := Lib.hid hv5
  clear hv5
  replace HX := Lib.hid (HX.out.since (by first | exact h5 | exact (Since.alloc (Since.refl _) _).step h5 | exact (Since.alloc (Since.alloc (Since.refl _) _) _).step h5 | exact (Since.drew (Since.refl _)).step h5 | exact (Since.alloc (Since.alloc (Since.alloc (Since.refl _) _) _) _).step h5))
  replace HS := Lib.hid (HS.out.step (by first | exact h5 | exact (Since.alloc (Since.refl _) _).step h5 | exact (Since.alloc (Since.alloc (Since.refl _) _) _).step h5 | exact (Since.drew (Since.refl _)).step h5 | exact (Since.alloc (Since.alloc (Since.alloc (Since.refl _) _) _) _).step h5))
  clear h5
  go_wp2_with fail
  refine (c5.calls0) ?_
  intro v8 w8 hv8 h8
  replace HS := Lib.hid (HS.out.step h8)
  have HV8 := Lib.hid hv8
  obtain ⟨B, d, rfl, _⟩ := hv8.empty rfl
  clear hv8 h8
  go_wp2_with fail
  refine (c6.calls0 HV8.out) ?_
  intro w9 h9
  replace HS := Lib.hid (HS.out.step (by first | exact h9 | exact (Since.alloc (Since.refl _) _).step h9 | exact (Since.alloc (Since.alloc (Since.refl _) _) _).step h9 | exact (Since.drew (Since.refl _)).step h9 | exact (Since.alloc (Since.alloc (Since.alloc (Since.refl _) _) _) _).step h9))
  clear h9
  go_wp2_with fail
  refine (cA.calls0) ?_
  intro w10 h10
  replace HS := Lib.hid (HS.out.step (by first | exact h10 | exact (Since.alloc (Since.refl _) _).step h10 | exact (Since.alloc (Since.alloc (Since.refl _) _) _).step h10 | exact (Since.drew (Since.refl _)).step h10 | exact (Since.alloc (Since.alloc (Since.alloc (Since.refl _) _) _) _).step h10))
  clear h10
  go_wp2_with fail
  go_ret
  exact ⟨rfl, HS.out⟩
set_option maxRecDepth 100000 in
set_option maxHeartbeats 8000000 in
theorem core_101 (w : World) (A : Option Addr) (n c : Nat) (l : List A2) (t : ByteArray) (hx : AttsS w (.slice A n c) l) (l1 : t.size ≤ 2000)
    (cF : RdA 6 l (fun x => #[x, .int .i64 60]) (.bool true)) (X : ByteArray) (c1 : RdA 8 l (fun x => #[x]) (.tuple #[.string X, .int .i64 0])) (c2 : MkA 10 #[.string X] l 0) (G : Int) (e3 : (G == 0) = false) (O : List P2) (c3 : MkP 13 l O G) (L : List A2) (_e1 : (t.toList == t.toList) = true) (c5 : MkA 10 #[.string t] L 0) (c6 : RdA 8 L (fun x => #[x]) (.tuple #[.string t, .int .i64 0])) :
    Calls Try.prog 5 #[.slice A n c, .string t] w fun x w' => x = .returned (.bool true) ∧ Since w w' := by
  have HS := Lib.hid (Since.refl w)
  have HX := Lib.hid hx
  have t1 : decide ((2000 : Int) < (t.size : Int)) = false := decide_eq_false (by omega)
  have cA := awake_mak
  have cE := attrs_same l
  clear hx
  go_enter Try.func5, Try.ntmps5
  go_wp2_with fail
  refine (cF.calls0 HX.out) ?_
  intro w1 h1
  replace HX := Lib.hid (HX.out.since (by first | exact h1 | exact (Since.alloc (Since.refl _) _).step h1 | exact (Since.alloc (Since.alloc (Since.refl _) _) _).step h1 | exact (Since.drew (Since.refl _)).step h1 | exact (Since.alloc (Since.alloc (Since.alloc (Since.refl _) _) _) _).step h1))
  replace HS := Lib.hid (HS.out.step (by first | exact h1 | exact (Since.alloc (Since.refl _) _).step h1 | exact (Since.alloc (Since.alloc (Since.refl _) _) _).step h1 | exact (Since.drew (Since.refl _)).step h1 | exact (Since.alloc (Since.alloc (Since.alloc (Since.refl _) _) _) _).step h1))
  clear h1
  go_wp2_with fail
  refine (c1.calls0 HX.out) ?_
  intro w2 h2
  replace HX := Lib.hid (HX.out.since (by first | exact h2 | exact (Since.alloc (Since.refl _) _).step h2 | exact (Since.alloc (Since.alloc (Since.refl _) _) _).step h2 | exact (Since.drew (Since.refl _)).step h2 | exact (Since.alloc (Since.alloc (Since.alloc (Since.refl _) _) _) _).step h2))
  replace HS := Lib.hid (HS.out.step (by first | exact h2 | exact (Since.alloc (Since.refl _) _).step h2 | exact (Since.alloc (Since.alloc (Since.refl _) _) _).step h2 | exact (Since.drew (Since.refl _)).step h2 | exact (Since.alloc (Since.alloc (Since.alloc (Since.refl _) _) _) _).step h2))
  clear h2
  go_wp2_with fail
  refine (c2.calls0) ?_
  intro v3 w3 hv3 h3
  have HV3 := Lib.hid hv3
  clear hv3
  replace HX := Lib.hid (HX.out.since (by first | exact h3 | exact (Since.alloc (Since.refl _) _).step h3 | exact (Since.alloc (Since.alloc (Since.refl _) _) _).step h3 | exact (Since.drew (Since.refl _)).step h3 | exact (Since.alloc (Since.alloc (Since.alloc (Since.refl _) _) _) _).step h3))
  replace HS := Lib.hid (HS.out.step (by first | exact h3 | exact (Since.alloc (Since.refl _) _).step h3 | exact (Since.alloc (Since.alloc (Since.refl _) _) _).step h3 | exact (Since.drew (Since.refl _)).step h3 | exact (Since.alloc (Since.alloc (Since.alloc (Since.refl _) _) _) _).step h3))
  clear h3
  go_wp2_with fail
  refine (cE.calls0 HV3.out HX.out) ?_
  intro w4 h4
  replace HX := Lib.hid (HX.out.since (by first | exact h4 | exact (Since.alloc (Since.refl _) _).step h4 | exact (Since.alloc (Since.alloc (Since.refl _) _) _).step h4 | exact (Since.drew (Since.refl _)).step h4 | exact (Since.alloc (Since.alloc (Since.alloc (Since.refl _) _) _) _).step h4))
  replace HS := Lib.hid (HS.out.step (by first | exact h4 | exact (Since.alloc (Since.refl _) _).step h4 | exact (Since.alloc (Since.alloc (Since.refl _) _) _).step h4 | exact (Since.drew (Since.refl _)).step h4 | exact (Since.alloc (Since.alloc (Since.alloc (Since.refl _) _) _) _).step h4))
  clear h4
  go_wp2_with fail
  refine (c3.calls0 HX.out) ?_
  intro v5 w5 hv5 h5
  have HV5 := Lib.hid hv5
  clear hv5
  replace HX := Lib.hid (HX.out.since (by first | exact h5 | exact (Since.alloc (Since.refl _) _).step h5 | exact (Since.alloc (Since.alloc (Since.refl _) _) _).step h5 | exact (Since.drew (Since.refl _)).step h5 | exact (Since.alloc (Since.alloc (Since.alloc (Since.refl _) _) _) _).step h5))
  replace HS := Lib.hid (HS.out.step (by first | exact h5 | exact (Since.alloc (Since.refl _) _).step h5 | exact (Since.alloc (Since.alloc (Since.refl _) _) _).step h5 | exact (Since.drew (Since.refl _)).step h5 | exact (Since.alloc (Since.alloc (Since.alloc (Since.refl _) _) _) _).step h5))
  clear h5
  go_wp2_with fail
  refine (c5.calls0) ?_
  intro v8 w8 hv8 h8
  have HV8 := Lib.hid hv8
  clear hv8
  replace HS := Lib.hid (HS.out.step (by first | exact h8 | exact (Since.alloc (Since.refl _) _).step h8 | exact (Since.alloc (Since.alloc (Since.refl _) _) _).step h8 | exact (Since.drew (Since.refl _)).step h8 | exact (Since.alloc (Since.alloc (Since.alloc (Since.refl _) _) _) _).step h8))
  clear h8
  go_wp2_with fail
  refine (c6.calls0 HV8.out) ?_
  intro w9 h9
  replace HS := Lib.hid (HS.out.step (by first | exact h9 | exact (Since.alloc (Since.refl _) _).step h9 | exact (Since.alloc (Since.alloc (Since.refl _) _) _).step h9 | exact (Since.drew (Since.refl _)).step h9 | exact (Since.alloc (Since.alloc (Since.alloc (Since.refl _) _) _) _).step h9))
  clear h9
  go_wp2_with fail
  refine (cA.calls0) ?_
  intro w10 h10
  replace HS := Lib.hid (HS.out.step (by first | exact h10 | exact (Since.alloc (Since.refl _) _).step h10 | exact (Since.alloc (Since.alloc (Since.refl _) _) _).step h10 | exact (Since.drew (Since.refl _)).step h10 | exact (Since.alloc (Since.alloc (Since.alloc (Since.refl _) _) _) _).step h10))
  clear h10
  go_wp2_with fail
  go_ret
  exact ⟨rfl, HS.out⟩
set_option maxRecDepth 100000 in
set_option maxHeartbeats 8000000 in
theorem core_000 (w : World) (A : Option Addr) (n c : Nat) (l : List A2) (t : ByteArray) (hx : AttsS w (.slice A n c) l) (l1 : t.size ≤ 2000)
    (cF : RdA 6 l (fun x => #[x, .int .i64 60]) (.bool true)) (X : ByteArray) (D : Int) (e4 : (D == 0) = false) (c1 : RdA 8 l (fun x => #[x]) (.tuple #[.string X, .int .i64 D])) (G : Int) (e3 : (G == 0) = false) (O : List P2) (c3 : MkP 13 l O G) (_L : List A2) (E : Int) (_hE : E ≠ 0) (e1 : (E != 0) = true) (_e2 : (E == 0) = false) (Y : ByteArray) (F : Int) (c5 : MkA 10 #[.string t] [] E) (c6 : RdA 8 [] (fun x => #[x]) (.tuple #[.string Y, .int .i64 F])) :
    Calls Try.prog 5 #[.slice A n c, .string t] w fun x w' => x = .returned (.bool true) ∧ Since w w' := by
  have HS := Lib.hid (Since.refl w)
  have HX := Lib.hid hx
  have t1 : decide ((2000 : Int) < (t.size : Int)) = false := decide_eq_false (by omega)
  have cA := awake_mak
  have cE := attrs_same l
  clear hx
  go_enter Try.func5, Try.ntmps5
  go_wp2_with fail
  refine (cF.calls0 HX.out) ?_
  intro w1 h1
  replace HX := Lib.hid (HX.out.since (by first | exact h1 | exact (Since.alloc (Since.refl _) _).step h1 | exact (Since.alloc (Since.alloc (Since.refl _) _) _).step h1 | exact (Since.drew (Since.refl _)).step h1 | exact (Since.alloc (Since.alloc (Since.alloc (Since.refl _) _) _) _).step h1))
  replace HS := Lib.hid (HS.out.step (by first | exact h1 | exact (Since.alloc (Since.refl _) _).step h1 | exact (Since.alloc (Since.alloc (Since.refl _) _) _).step h1 | exact (Since.drew (Since.refl _)).step h1 | exact (Since.alloc (Since.alloc (Since.alloc (Since.refl _) _) _) _).step h1))
  clear h1
  go_wp2_with fail
  refine (c1.calls0 HX.out) ?_
  intro w2 h2
  replace HX := Lib.hid (HX.out.since (by first | exact h2 | exact (Since.alloc (Since.refl _) _).step h2 | exact (Since.alloc (Since.alloc (Since.refl _) _) _).step h2 | exact (Since.drew (Since.refl _)).step h2 | exact (Since.alloc (Since.alloc (Since.alloc (Since.refl _) _) _) _).step h2))
  replace HS := Lib.hid (HS.out.step (by first | exact h2 | exact (Since.alloc (Since.refl _) _).step h2 | exact (Since.alloc (Since.alloc (Since.refl _) _) _).step h2 | exact (Since.drew (Since.refl _)).step h2 | exact (Since.alloc (Since.alloc (Since.alloc (Since.refl _) _) _) _).step h2))
  clear h2
  go_wp2_with fail
  refine (c3.calls0 HX.out) ?_
  intro v5 w5 hv5 h5
  have HV5 := Lib.hid hv5
  clear hv5
  replace HX := Lib.hid (HX.out.since (by first | exact h5 | exact (Since.alloc (Since.refl _) _).step h5 | exact (Since.alloc (Since.alloc (Since.refl _) _) _).step h5 | exact (Since.drew (Since.refl _)).step h5 | exact (Since.alloc (Since.alloc (Since.alloc (Since.refl _) _) _) _).step h5))
  replace HS := Lib.hid (HS.out.step (by first | exact h5 | exact (Since.alloc (Since.refl _) _).step h5 | exact (Since.alloc (Since.alloc (Since.refl _) _) _).step h5 | exact (Since.drew (Since.refl _)).step h5 | exact (Since.alloc (Since.alloc (Since.alloc (Since.refl _) _) _) _).step h5))
  clear h5
  go_wp2_with fail
  refine (c5.calls0) ?_
  intro v8 w8 hv8 h8
  replace HS := Lib.hid (HS.out.step h8)
  have HV8 := Lib.hid hv8
  obtain ⟨B, d, rfl, _⟩ := hv8.empty rfl
  clear hv8 h8
  go_wp2_with fail
  refine (c6.calls0 HV8.out) ?_
  intro w9 h9
  replace HS := Lib.hid (HS.out.step (by first | exact h9 | exact (Since.alloc (Since.refl _) _).step h9 | exact (Since.alloc (Since.alloc (Since.refl _) _) _).step h9 | exact (Since.drew (Since.refl _)).step h9 | exact (Since.alloc (Since.alloc (Since.alloc (Since.refl _) _) _) _).step h9))
  clear h9
  go_wp2_with fail
  refine (cA.calls0) ?_
  intro w10 h10
  replace HS := Lib.hid (HS.out.step (by first | exact h10 | exact (Since.alloc (Since.refl _) _).step h10 | exact (Since.alloc (Since.alloc (Since.refl _) _) _).step h10 | exact (Since.drew (Since.refl _)).step h10 | exact (Since.alloc (Since.alloc (Since.alloc (Since.refl _) _) _) _).step h10))
  clear h10
  go_wp2_with fail
  go_ret
  exact ⟨rfl, HS.out⟩
set_option maxRecDepth 100000 in
set_option maxHeartbeats 8000000 in
theorem core_001 (w : World) (A : Option Addr) (n c : Nat) (l : List A2) (t : ByteArray) (hx : AttsS w (.slice A n c) l) (l1 : t.size ≤ 2000)
    (cF : RdA 6 l (fun x => #[x, .int .i64 60]) (.bool true)) (X : ByteArray) (D : Int) (e4 : (D == 0) = false) (c1 : RdA 8 l (fun x => #[x]) (.tuple #[.string X, .int .i64 D])) (G : Int) (e3 : (G == 0) = false) (O : List P2) (c3 : MkP 13 l O G) (L : List A2) (_e1 : (t.toList == t.toList) = true) (c5 : MkA 10 #[.string t] L 0) (c6 : RdA 8 L (fun x => #[x]) (.tuple #[.string t, .int .i64 0])) :
    Calls Try.prog 5 #[.slice A n c, .string t] w fun x w' => x = .returned (.bool true) ∧ Since w w' := by
  have HS := Lib.hid (Since.refl w)
  have HX := Lib.hid hx
  have t1 : decide ((2000 : Int) < (t.size : Int)) = false := decide_eq_false (by omega)
  have cA := awake_mak
  have cE := attrs_same l
  clear hx
  go_enter Try.func5, Try.ntmps5
  go_wp2_with fail
  refine (cF.calls0 HX.out) ?_
  intro w1 h1
  replace HX := Lib.hid (HX.out.since (by first | exact h1 | exact (Since.alloc (Since.refl _) _).step h1 | exact (Since.alloc (Since.alloc (Since.refl _) _) _).step h1 | exact (Since.drew (Since.refl _)).step h1 | exact (Since.alloc (Since.alloc (Since.alloc (Since.refl _) _) _) _).step h1))
  replace HS := Lib.hid (HS.out.step (by first | exact h1 | exact (Since.alloc (Since.refl _) _).step h1 | exact (Since.alloc (Since.alloc (Since.refl _) _) _).step h1 | exact (Since.drew (Since.refl _)).step h1 | exact (Since.alloc (Since.alloc (Since.alloc (Since.refl _) _) _) _).step h1))
  clear h1
  go_wp2_with fail
  refine (c1.calls0 HX.out) ?_
  intro w2 h2
  replace HX := Lib.hid (HX.out.since (by first | exact h2 | exact (Since.alloc (Since.refl _) _).step h2 | exact (Since.alloc (Since.alloc (Since.refl _) _) _).step h2 | exact (Since.drew (Since.refl _)).step h2 | exact (Since.alloc (Since.alloc (Since.alloc (Since.refl _) _) _) _).step h2))
  replace HS := Lib.hid (HS.out.step (by first | exact h2 | exact (Since.alloc (Since.refl _) _).step h2 | exact (Since.alloc (Since.alloc (Since.refl _) _) _).step h2 | exact (Since.drew (Since.refl _)).step h2 | exact (Since.alloc (Since.alloc (Since.alloc (Since.refl _) _) _) _).step h2))
  clear h2
  go_wp2_with fail
  refine (c3.calls0 HX.out) ?_
  intro v5 w5 hv5 h5
  have HV5 := Lib.hid hv5
  clear hv5
  replace HX := Lib.hid (HX.out.since (by first | exact h5 | exact (Since.alloc (Since.refl _) _).step h5 | exact (Since.alloc (Since.alloc (Since.refl _) _) _).step h5 | exact (Since.drew (Since.refl _)).step h5 | exact (Since.alloc (Since.alloc (Since.alloc (Since.refl _) _) _) _).step h5))
  replace HS := Lib.hid (HS.out.step (by first | exact h5 | exact (Since.alloc (Since.refl _) _).step h5 | exact (Since.alloc (Since.alloc (Since.refl _) _) _).step h5 | exact (Since.drew (Since.refl _)).step h5 | exact (Since.alloc (Since.alloc (Since.alloc (Since.refl _) _) _) _).step h5))
  clear h5
  go_wp2_with fail
  refine (c5.calls0) ?_
  intro v8 w8 hv8 h8
  have HV8 := Lib.hid hv8
  clear hv8
  replace HS := Lib.hid (HS.out.step (by first | exact h8 | exact (Since.alloc (Since.refl _) _).step h8 | exact (Since.alloc (Since.alloc (Since.refl _) _) _).step h8 | exact (Since.drew (Since.refl _)).step h8 | exact (Since.alloc (Since.alloc (Since.alloc (Since.refl _) _) _) _).step h8))
  clear h8
  go_wp2_with fail
  refine (c6.calls0 HV8.out) ?_
  intro w9 h9
  replace HS := Lib.hid (HS.out.step (by first | exact h9 | exact (Since.alloc (Since.refl _) _).step h9 | exact (Since.alloc (Since.alloc (Since.refl _) _) _).step h9 | exact (Since.drew (Since.refl _)).step h9 | exact (Since.alloc (Since.alloc (Since.alloc (Since.refl _) _) _) _).step h9))
  clear h9
  go_wp2_with fail
  refine (cA.calls0) ?_
  intro w10 h10
  replace HS := Lib.hid (HS.out.step (by first | exact h10 | exact (Since.alloc (Since.refl _) _).step h10 | exact (Since.alloc (Since.alloc (Since.refl _) _) _).step h10 | exact (Since.drew (Since.refl _)).step h10 | exact (Since.alloc (Since.alloc (Since.alloc (Since.refl _) _) _) _).step h10))
  clear h10
  go_wp2_with fail
  go_ret
  exact ⟨rfl, HS.out⟩
set_option maxRecDepth 100000 in
set_option maxHeartbeats 4000000 in
theorem core_big (w : World) (A : Option Addr) (n c : Nat) (l : List A2) (t : ByteArray) (hx : AttsS w (.slice A n c) l) (q : Bool) (hq : q = false ∨ 2000 < t.size)
    (cF : RdA 6 l (fun x => #[x, .int .i64 60]) (.bool q)) :
    Calls Try.prog 5 #[.slice A n c, .string t] w fun x w' => x = .returned (.bool true) ∧ Since w w' := by
  have HS := Lib.hid (Since.refl w)
  have HX := Lib.hid hx
  have cA := awake_mak
  clear hx
  cases q with
  | false =>
    clear hq
    go_enter Try.func5, Try.ntmps5
    go_wp2_with fail
    refine (cF.calls0 HX.out) ?_
    intro w1 h1
    replace HX := Lib.hid (HX.out.since (by first | exact h1 | exact (Since.alloc (Since.refl _) _).step h1 | exact (Since.alloc (Since.alloc (Since.refl _) _) _).step h1 | exact (Since.drew (Since.refl _)).step h1 | exact (Since.alloc (Since.alloc (Since.alloc (Since.refl _) _) _) _).step h1))
    replace HS := Lib.hid (HS.out.step (by first | exact h1 | exact (Since.alloc (Since.refl _) _).step h1 | exact (Since.alloc (Since.alloc (Since.refl _) _) _).step h1 | exact (Since.drew (Since.refl _)).step h1 | exact (Since.alloc (Since.alloc (Since.alloc (Since.refl _) _) _) _).step h1))
    clear h1
    go_wp2_with fail
    refine (cA.calls0) ?_
    intro w7 h7
    replace HS := Lib.hid (HS.out.step (by first | exact h7 | exact (Since.alloc (Since.refl _) _).step h7 | exact (Since.alloc (Since.alloc (Since.refl _) _) _).step h7 | exact (Since.drew (Since.refl _)).step h7 | exact (Since.alloc (Since.alloc (Since.alloc (Since.refl _) _) _) _).step h7))
    clear h7
    go_wp2_with fail
    go_ret
    exact ⟨rfl, HS.out⟩
  | true =>
    have t1 : decide ((2000 : Int) < (t.size : Int)) = true := decide_eq_true (by rcases hq with h | h; cases h; omega)
    clear hq
    go_enter Try.func5, Try.ntmps5
    go_wp2_with fail
    refine (cF.calls0 HX.out) ?_
    intro w1 h1
    replace HX := Lib.hid (HX.out.since (by first | exact h1 | exact (Since.alloc (Since.refl _) _).step h1 | exact (Since.alloc (Since.alloc (Since.refl _) _) _).step h1 | exact (Since.drew (Since.refl _)).step h1 | exact (Since.alloc (Since.alloc (Since.alloc (Since.refl _) _) _) _).step h1))
    replace HS := Lib.hid (HS.out.step (by first | exact h1 | exact (Since.alloc (Since.refl _) _).step h1 | exact (Since.alloc (Since.alloc (Since.refl _) _) _).step h1 | exact (Since.drew (Since.refl _)).step h1 | exact (Since.alloc (Since.alloc (Since.alloc (Since.refl _) _) _) _).step h1))
    clear h1
    go_wp2_with fail
    refine (cA.calls0) ?_
    intro w7 h7
    replace HS := Lib.hid (HS.out.step (by first | exact h7 | exact (Since.alloc (Since.refl _) _).step h7 | exact (Since.alloc (Since.alloc (Since.refl _) _) _).step h7 | exact (Since.drew (Since.refl _)).step h7 | exact (Since.alloc (Since.alloc (Since.alloc (Since.refl _) _) _) _).step h7))
    clear h7
    go_wp2_with fail
    go_ret
    exact ⟨rfl, HS.out⟩
set_option maxRecDepth 100000 in
theorem walk (w : World) (A : Option Addr) (n c : Nat) (l : List A2) (t : ByteArray) (hx : AttsS w (.slice A n c) l) (_hn : n = l.length) (_hl : ∀ p ∈ l, (Lit.int .i64 p.1).wf = true ∧ p.2.size ≤ maxLen) (_w1 : t.size ≤ maxLen) :
    Calls Try.prog 5 #[.slice A n c, .string t] w fun e w' => e = .returned (.bool true) ∧ Below w.heap.size w w' := by
  by_cases hb : fewB l 60 = false ∨ 2000 < t.size
  · exact core_big w A n c l t hx _ hb (few_rd l 60 (by decide) _ rfl)
  · have hf : fewB l 60 = true := by cases h : fewB l 60 with | true => rfl | false => exact absurd (Or.inl h) hb
    have ht : t.size ≤ 2000 := by omega
    have cF := few_rd l 60 (by decide) true hf.symm
    have k1 := encode_rd l
    unfold encV at k1
    have k3 := options_mk l
    have k5 := decode_mk t (by omega)
    have last : (∃ E Y F, E ≠ 0 ∧ MkA 10 #[.string t] [] E ∧ RdA 8 [] (fun x => #[x]) (.tuple #[.string Y, .int .i64 F])) ∨ (∃ L, MkA 10 #[.string t] L 0 ∧ RdA 8 L (fun x => #[x]) (.tuple #[.string t, .int .i64 0])) := by
      cases hd : decO t.data.toList with
      | none =>
        rw [hd] at k5
        exact Or.inl ⟨5, _, _, by decide, k5, encode_rd []⟩
      | some L =>
        rw [hd] at k5
        by_cases h0 : attE L = 0
        · have k6 := encode_rd L
          unfold encV at k6
          rw [enc_dec t L hd h0, h0] at k6
          rw [p_good L h0, show pE (some L) = 0 from h0] at k5
          exact Or.inr ⟨L, k5, k6⟩
        · rw [p_bad L h0] at k5
          exact Or.inl ⟨_, _, _, h0, k5, encode_rd []⟩
    by_cases hE : attE l = 0
    · rw [hE] at k1
      have k2 := decode_mk (encT l) (by have := encT_size l; omega)
      rw [dec_enc l hE, p_good l hE, show pE (some l) = 0 from hE] at k2
      by_cases hO : oE l = 0
      · obtain ⟨f1, f2⟩ := from_opt l hO
        have k4 := from_mk (oL l) (by
          intro p hp
          unfold oL at hp
          split at hp
          · have hp2 := List.mem_singleton.1 hp
            subst hp2
            have := encT_size l
            show (encT l).size ≤ _; omega
          · cases hp) decode_mk
        rw [f1, f2] at k4
        rw [hO] at k3
        rcases last with ⟨E, Y, F, h1, h2, h3⟩ | ⟨L, h2, h3⟩
        · exact core_110 w A n c l t hx ht cF _ k1 k2 _ k3 k4 [] E h1 (bne_iff_ne.2 h1) (beq_eq_false_iff_ne.2 h1) Y F h2 h3
        · exact core_111 w A n c l t hx ht cF _ k1 k2 _ k3 k4 L (beq_self_eq_true _) h2 h3
      · rcases last with ⟨E, Y, F, h1, h2, h3⟩ | ⟨L, h2, h3⟩
        · exact core_100 w A n c l t hx ht cF _ k1 k2 _ (beq_eq_false_iff_ne.2 hO) _ k3 [] E h1 (bne_iff_ne.2 h1) (beq_eq_false_iff_ne.2 h1) Y F h2 h3
        · exact core_101 w A n c l t hx ht cF _ k1 k2 _ (beq_eq_false_iff_ne.2 hO) _ k3 L (beq_self_eq_true _) h2 h3
    · have hO : oE l ≠ 0 := by rw [(o_bad l hE).2]; exact hE
      rcases last with ⟨E, Y, F, h1, h2, h3⟩ | ⟨L, h2, h3⟩
      · exact core_000 w A n c l t hx ht cF _ _ (beq_eq_false_iff_ne.2 hE) k1 _ (beq_eq_false_iff_ne.2 hO) _ k3 [] E h1 (bne_iff_ne.2 h1) (beq_eq_false_iff_ne.2 h1) Y F h2 h3
      · exact core_001 w A n c l t hx ht cF _ _ (beq_eq_false_iff_ne.2 hE) k1 _ (beq_eq_false_iff_ne.2 hO) _ k3 L (beq_self_eq_true _) h2 h3

set_option maxRecDepth 100000 in
theorem own : ownKnob Try.prog.godebug = none := by kernel_rfl
set_option maxRecDepth 100000 in
theorem laidOut : laidOutB Try.prog = true := by kernel_rfl

set_option maxRecDepth 100000 in
theorem lifted (os : Os) (started : os.Started) (H : Type) (enc : TypeId × Value → H) :
    ReturnsInHanded {} Try.checked os 5 .any (Rows.templBackSpec.pre6 enc Try.prog Try.f5 Rows.templBackRow.domain false) (Rows.templBackSpec.post enc Try.prog Try.f5 false true false false) := by
  refine returnsInHanded_of_change (C := Try.checked) own started (by kernel_rfl) Try.func5
    (ChangeSpec.witness6 (enc := enc) (C := Try.checked) false ⟨#[], #[.slice none 0 0, .string ⟨#[]⟩], []⟩ 8 (by kernel_rfl) (by kernel_rfl) (by kernel_rfl) (by kernel_rfl)) ?_
  intro W base args ds gs before hval0 hW hcnd _
  have hval : ∀ (j : Nat) t v, Try.f5.params[j]? = some t → args[j]? = some v → Value.okWide Try.prog W .any base t v := hval0
  have hW' := hW
  obtain ⟨p, q, hA0, hV, rfl, hfz, hnd⟩ := hW
  have hA : DataW.TrodAll enc Try.prog W 0 (fun _ => true) true Try.f5.params.toList args.toList ds p := hA0
  rw [Try.params5] at hA hval
  obtain ⟨v0, vs0, d0, ds0, p0, q0, hargs, rfl, rfl, h0, r0⟩ := trodAll_cons hA
  obtain ⟨v1, vs1, d1, ds1, p1, q1, rfl, rfl, rfl, h1, r1⟩ := trodAll_cons r0
  obtain ⟨rfl, rfl, rfl⟩ := trodAll_nil r1
  obtain rfl : args = #[v0, v1] := by cases args; simp_all
  obtain ⟨rfl, rfl⟩ := trodVars_none hV
  obtain ⟨a0, n0, c0, rfl⟩ := okWide_slice Try.underlying22 (hval 0 22 v0 rfl rfl)
  have h0k := h0
  obtain ⟨fuel0, hf0⟩ := h0
  have hlt0 : ∀ x ∈ p0, x.block < W.heap.size := fun x hx => by simpa using hW'.lt x (by simp [hx])
  obtain ⟨x0, lA0, lN0, lX0⟩ := atts_arg hf0 hlt0
  obtain ⟨a1, rfl, rfl, rfl, w1⟩ := Go.ChangeMaps.open_string Try.underlying9 (hval 1 9 v1 rfl rfl) h1
  clear hA0 hval0
  simp only [List.append_nil] at hW'
  refine (walk W a0 n0 c0 x0 a1 lA0 lN0 lX0 w1).mono fun e W' ⟨he, hg⟩ => ?_
  subst he
  exact ⟨_, rfl, _, _, _, _, _, [], hW', (trodAll_cons_mk (shut_bool Try.underlying4 _) trodAll_mk0), (trodAll_cons_mk (Below.trod laidOut (by kernel_rfl) (of_decide_eq_true (by kernel_rfl)) h0k hg hlt0) (trodAll_cons_mk (Go.ChangeMaps.shut_string Try.underlying9 w1) trodAll_mk0)), rfl, hg.frame _, fun h => by cases h⟩

set_option maxRecDepth 100000 in
theorem over : Rows.templBackRow.holds Try.pinned (OpenSpec.ofChange Rows.templBackSpec) :=
  OpenClaim.holds_of_wide 5 Try.f5 rfl rfl rfl rfl rfl rfl rfl ⟨rfl, rfl, rfl, rfl, rfl⟩ rfl rfl rfl rfl rfl (by kernel_rfl) Try.func5 (by kernel_rfl)
    (of_decide_eq_true (by kernel_rfl)) (by unfold Func.isWrapper; first | (rw [if_pos (by decide +kernel)]; kernel_rfl) | (rw [if_neg (by decide +kernel)]; exact ⟨rfl, rfl⟩))
    (fun os started H enc _ => lifted os started H enc)

theorem proved : Rows.TemplBackSaid :=
  over

end Go.Proofs.Ytoledeeefcbgnaa.templBack
