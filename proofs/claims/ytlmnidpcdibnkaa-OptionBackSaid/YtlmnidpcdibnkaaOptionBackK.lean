/- The law OptionBack: what is packed is unpacked as it was, whatever stands behind it; what is unpacked is packed so again; no conditions. -/
import Derived.Test.YtlmnidpcdibnkaaRows
import Derived.WalkKit
import Derived.ProofKit
import Derived.OpenShut
import Derived.Lib.Hide
import Derived.Test.YtlmnidpcdibnkaaPk19
namespace Go.Proofs.Ytlmnidpcdibnkaa.optionBack
open Go.ChangeShapes Go.WideShapes Go.ChangeAt Go.RowKit
open Opt

set_option maxRecDepth 100000 in
set_option maxHeartbeats 8000000 in
theorem core_11 (w : World) (A : Option Addr) (n c : Nat) (l : List P2) (s rest : ByteArray) (m : Int) (hx : OptsS w (.slice A n c) l) (l3 : s.size ≤ 2000) (l4 : rest.size ≤ 100)
    (c0 : RdO 31 l (fun x => #[x]) (.bool true)) (cT : CallsT l) (X Y P : ByteArray) (N : Int) (hY : X ++ rest = Y) (hXs : X.size ≤ 100000) (h16 : ((X.size : Int) % 16 != 0) = false) (c1 : RdO 32 l (fun x => #[x]) (.tuple #[.string X, .int .i64 N, .int .i64 0])) (c2 : MkO 35 #[.string Y, .int .i64 N] l (X.size : Int) 0) (cE : CallsE l) (k1 : ¬ 9223372036854775807 < X.size + rest.size) (L : List P2) (B : Nat) (hB : (0 : Int) ≤ (B : Int) ∧ (B : Int) ≤ (s.size : Int)) (hmx : max m 0 = m) (hP : s.extract 0 B = P) (c3 : MkO 35 #[.string s, .int .i64 m] L (B : Int) 0) (c4 : RdO 32 L (fun x => #[x]) (.tuple #[.string P, .int .i64 m, .int .i64 0])) (_t7 : (P.toList == P.toList) = true) :
    Calls Try.prog 8 #[.slice A n c, .string s, .string rest, .int .i64 m] w fun x w' => x = .returned (.bool true) ∧ Since w w' := by
  have HS := Lib.hid (Since.refl w)
  have HX := Lib.hid hx
  have t3 : decide ((2000 : Int) < (s.size : Int)) = false := decide_eq_false (by omega)
  have t4 : decide ((100 : Int) < (rest.size : Int)) = false := decide_eq_false (by omega)
  have cA := awake_mak
  clear hx
  go_enter Try.func8, Try.ntmps8
  go_wp2_with fail
  refine (c0.calls0 HX.out) ?_
  intro w1 h1
  replace HX := Lib.hid (HX.out.since (by first | exact h1 | exact (Since.alloc (Since.refl _) _).step h1 | exact (Since.alloc (Since.alloc (Since.refl _) _) _).step h1 | exact (Since.drew (Since.refl _)).step h1 | exact (Since.alloc (Since.alloc (Since.alloc (Since.refl _) _) _) _).step h1))
  replace HS := Lib.hid (HS.out.step (by first | exact h1 | exact (Since.alloc (Since.refl _) _).step h1 | exact (Since.alloc (Since.alloc (Since.refl _) _) _).step h1 | exact (Since.drew (Since.refl _)).step h1 | exact (Since.alloc (Since.alloc (Since.alloc (Since.refl _) _) _) _).step h1))
  clear h1
  go_wp2_with fail
  refine (cT.calls0 HX.out) ?_
  intro v2 w2 hv2 h2
  have HV2 := Lib.hid hv2
  clear hv2
  replace HX := Lib.hid (HX.out.since (by first | exact h2 | exact (Since.alloc (Since.refl _) _).step h2 | exact (Since.alloc (Since.alloc (Since.refl _) _) _).step h2 | exact (Since.drew (Since.refl _)).step h2 | exact (Since.alloc (Since.alloc (Since.alloc (Since.refl _) _) _) _).step h2))
  replace HS := Lib.hid (HS.out.step (by first | exact h2 | exact (Since.alloc (Since.refl _) _).step h2 | exact (Since.alloc (Since.alloc (Since.refl _) _) _).step h2 | exact (Since.drew (Since.refl _)).step h2 | exact (Since.alloc (Since.alloc (Since.alloc (Since.refl _) _) _) _).step h2))
  clear h2
  go_wp2_with fail
  refine (c1.calls0 HV2.out) ?_
  intro w3 h3
  replace HX := Lib.hid (HX.out.since (by first | exact h3 | exact (Since.alloc (Since.refl _) _).step h3 | exact (Since.alloc (Since.alloc (Since.refl _) _) _).step h3 | exact (Since.drew (Since.refl _)).step h3 | exact (Since.alloc (Since.alloc (Since.alloc (Since.refl _) _) _) _).step h3))
  replace HS := Lib.hid (HS.out.step (by first | exact h3 | exact (Since.alloc (Since.refl _) _).step h3 | exact (Since.alloc (Since.alloc (Since.refl _) _) _).step h3 | exact (Since.drew (Since.refl _)).step h3 | exact (Since.alloc (Since.alloc (Since.alloc (Since.refl _) _) _) _).step h3))
  clear h3
  go_wp2_with fail
  refine (c2.calls0) ?_
  intro v4 w4 hv4 h4
  have HV4 := Lib.hid hv4
  clear hv4
  replace HX := Lib.hid (HX.out.since (by first | exact h4 | exact (Since.alloc (Since.refl _) _).step h4 | exact (Since.alloc (Since.alloc (Since.refl _) _) _).step h4 | exact (Since.drew (Since.refl _)).step h4 | exact (Since.alloc (Since.alloc (Since.alloc (Since.refl _) _) _) _).step h4))
  replace HS := Lib.hid (HS.out.step (by first | exact h4 | exact (Since.alloc (Since.refl _) _).step h4 | exact (Since.alloc (Since.alloc (Since.refl _) _) _).step h4 | exact (Since.drew (Since.refl _)).step h4 | exact (Since.alloc (Since.alloc (Since.alloc (Since.refl _) _) _) _).step h4))
  clear h4
  go_wp2_with fail
  obtain ⟨A4, d4, hv4, _⟩ := HV4.out.slice
  refine (cE.calls0 HV4.out HX.out) ?_
  intro w5 h5
  replace HS := Lib.hid (HS.out.step (by first | exact h5 | exact (Since.alloc (Since.refl _) _).step h5 | exact (Since.alloc (Since.alloc (Since.refl _) _) _).step h5 | exact (Since.drew (Since.refl _)).step h5 | exact (Since.alloc (Since.alloc (Since.alloc (Since.refl _) _) _) _).step h5))
  clear h5
  go_wp2_with fail
  refine (c3.calls0) ?_
  intro v6 w6 hv6 h6
  have HV6 := Lib.hid hv6
  clear hv6
  replace HS := Lib.hid (HS.out.step (by first | exact h6 | exact (Since.alloc (Since.refl _) _).step h6 | exact (Since.alloc (Since.alloc (Since.refl _) _) _).step h6 | exact (Since.drew (Since.refl _)).step h6 | exact (Since.alloc (Since.alloc (Since.alloc (Since.refl _) _) _) _).step h6))
  clear h6
  go_wp2_with fail
  refine (c4.calls0 HV6.out) ?_
  intro w7 h7
  replace HS := Lib.hid (HS.out.step (by first | exact h7 | exact (Since.alloc (Since.refl _) _).step h7 | exact (Since.alloc (Since.alloc (Since.refl _) _) _).step h7 | exact (Since.drew (Since.refl _)).step h7 | exact (Since.alloc (Since.alloc (Since.alloc (Since.refl _) _) _) _).step h7))
  clear h7
  go_wp2_with fail
  refine (cA.calls0) ?_
  intro w8 h8
  replace HS := Lib.hid (HS.out.step (by first | exact h8 | exact (Since.alloc (Since.refl _) _).step h8 | exact (Since.alloc (Since.alloc (Since.refl _) _) _).step h8 | exact (Since.drew (Since.refl _)).step h8 | exact (Since.alloc (Since.alloc (Since.alloc (Since.refl _) _) _) _).step h8))
  clear h8
  go_wp2_with fail
  go_ret
  exact ⟨rfl, HS.out⟩
set_option maxRecDepth 100000 in
set_option maxHeartbeats 8000000 in
theorem core_12 (w : World) (A : Option Addr) (n c : Nat) (l : List P2) (s rest : ByteArray) (m : Int) (hx : OptsS w (.slice A n c) l) (l3 : s.size ≤ 2000) (l4 : rest.size ≤ 100)
    (c0 : RdO 31 l (fun x => #[x]) (.bool true)) (cT : CallsT l) (X Y : ByteArray) (N : Int) (hY : X ++ rest = Y) (hXs : X.size ≤ 100000) (h16 : ((X.size : Int) % 16 != 0) = false) (c1 : RdO 32 l (fun x => #[x]) (.tuple #[.string X, .int .i64 N, .int .i64 0])) (c2 : MkO 35 #[.string Y, .int .i64 N] l (X.size : Int) 0) (cE : CallsE l) (k1 : ¬ 9223372036854775807 < X.size + rest.size) (G : Int) (hG : (G != 0) = true) (c3 : MkO 35 #[.string s, .int .i64 m] [] 0 G) :
    Calls Try.prog 8 #[.slice A n c, .string s, .string rest, .int .i64 m] w fun x w' => x = .returned (.bool true) ∧ Since w w' := by
  have HS := Lib.hid (Since.refl w)
  have HX := Lib.hid hx
  have t3 : decide ((2000 : Int) < (s.size : Int)) = false := decide_eq_false (by omega)
  have t4 : decide ((100 : Int) < (rest.size : Int)) = false := decide_eq_false (by omega)
  have cA := awake_mak
  clear hx
  go_enter Try.func8, Try.ntmps8
  go_wp2_with fail
  refine (c0.calls0 HX.out) ?_
  intro w1 h1
  replace HX := Lib.hid (HX.out.since (by first | exact h1 | exact (Since.alloc (Since.refl _) _).step h1 | exact (Since.alloc (Since.alloc (Since.refl _) _) _).step h1 | exact (Since.drew (Since.refl _)).step h1 | exact (Since.alloc (Since.alloc (Since.alloc (Since.refl _) _) _) _).step h1))
  replace HS := Lib.hid (HS.out.step (by first | exact h1 | exact (Since.alloc (Since.refl _) _).step h1 | exact (Since.alloc (Since.alloc (Since.refl _) _) _).step h1 | exact (Since.drew (Since.refl _)).step h1 | exact (Since.alloc (Since.alloc (Since.alloc (Since.refl _) _) _) _).step h1))
  clear h1
  go_wp2_with fail
  refine (cT.calls0 HX.out) ?_
  intro v2 w2 hv2 h2
  have HV2 := Lib.hid hv2
  clear hv2
  replace HX := Lib.hid (HX.out.since (by first | exact h2 | exact (Since.alloc (Since.refl _) _).step h2 | exact (Since.alloc (Since.alloc (Since.refl _) _) _).step h2 | exact (Since.drew (Since.refl _)).step h2 | exact (Since.alloc (Since.alloc (Since.alloc (Since.refl _) _) _) _).step h2))
  replace HS := Lib.hid (HS.out.step (by first | exact h2 | exact (Since.alloc (Since.refl _) _).step h2 | exact (Since.alloc (Since.alloc (Since.refl _) _) _).step h2 | exact (Since.drew (Since.refl _)).step h2 | exact (Since.alloc (Since.alloc (Since.alloc (Since.refl _) _) _) _).step h2))
  clear h2
  go_wp2_with fail
  refine (c1.calls0 HV2.out) ?_
  intro w3 h3
  replace HX := Lib.hid (HX.out.since (by first | exact h3 | exact (Since.alloc (Since.refl _) _).step h3 | exact (Since.alloc (Since.alloc (Since.refl _) _) _).step h3 | exact (Since.drew (Since.refl _)).step h3 | exact (Since.alloc (Since.alloc (Since.alloc (Since.refl _) _) _) _).step h3))
  replace HS := Lib.hid (HS.out.step (by first | exact h3 | exact (Since.alloc (Since.refl _) _).step h3 | exact (Since.alloc (Since.alloc (Since.refl _) _) _).step h3 | exact (Since.drew (Since.refl _)).step h3 | exact (Since.alloc (Since.alloc (Since.alloc (Since.refl _) _) _) _).step h3))
  clear h3
  go_wp2_with fail
  refine (c2.calls0) ?_
  intro v4 w4 hv4 h4
  have HV4 := Lib.hid hv4
  clear hv4
  replace HX := Lib.hid (HX.out.since (by first | exact h4 | exact (Since.alloc (Since.refl _) _).step h4 | exact (Since.alloc (Since.alloc (Since.refl _) _) _).step h4 | exact (Since.drew (Since.refl _)).step h4 | exact (Since.alloc (Since.alloc (Since.alloc (Since.refl _) _) _) _).step h4))
  replace HS := Lib.hid (HS.out.step (by first | exact h4 | exact (Since.alloc (Since.refl _) _).step h4 | exact (Since.alloc (Since.alloc (Since.refl _) _) _).step h4 | exact (Since.drew (Since.refl _)).step h4 | exact (Since.alloc (Since.alloc (Since.alloc (Since.refl _) _) _) _).step h4))
  clear h4
  go_wp2_with fail
  obtain ⟨A4, d4, hv4, _⟩ := HV4.out.slice
  refine (cE.calls0 HV4.out HX.out) ?_
  intro w5 h5
  replace HS := Lib.hid (HS.out.step (by first | exact h5 | exact (Since.alloc (Since.refl _) _).step h5 | exact (Since.alloc (Since.alloc (Since.refl _) _) _).step h5 | exact (Since.drew (Since.refl _)).step h5 | exact (Since.alloc (Since.alloc (Since.alloc (Since.refl _) _) _) _).step h5))
  clear h5
  go_wp2_with fail
  refine (c3.calls0) ?_
  intro v6 w6 hv6 h6
  replace HS := Lib.hid (HS.out.step h6)
  obtain ⟨A6, d6, hv7, _⟩ := hv6.empty rfl
  subst hv7
  clear hv6 h6
  go_wp2_with fail
  refine (cA.calls0) ?_
  intro w8 h8
  replace HS := Lib.hid (HS.out.step (by first | exact h8 | exact (Since.alloc (Since.refl _) _).step h8 | exact (Since.alloc (Since.alloc (Since.refl _) _) _).step h8 | exact (Since.drew (Since.refl _)).step h8 | exact (Since.alloc (Since.alloc (Since.alloc (Since.refl _) _) _) _).step h8))
  clear h8
  go_wp2_with fail
  go_ret
  exact ⟨rfl, HS.out⟩
set_option maxRecDepth 100000 in
set_option maxHeartbeats 8000000 in
theorem core_21 (w : World) (A : Option Addr) (n c : Nat) (l : List P2) (s rest : ByteArray) (m : Int) (hx : OptsS w (.slice A n c) l) (l3 : s.size ≤ 2000) (l4 : rest.size ≤ 100)
    (c0 : RdO 31 l (fun x => #[x]) (.bool true)) (cT : CallsT l) (X P : ByteArray) (N E : Int) (hE : (E == 0) = false) (c1 : RdO 32 l (fun x => #[x]) (.tuple #[.string X, .int .i64 N, .int .i64 E])) (L : List P2) (B : Nat) (hB : (0 : Int) ≤ (B : Int) ∧ (B : Int) ≤ (s.size : Int)) (hmx : max m 0 = m) (hP : s.extract 0 B = P) (c3 : MkO 35 #[.string s, .int .i64 m] L (B : Int) 0) (c4 : RdO 32 L (fun x => #[x]) (.tuple #[.string P, .int .i64 m, .int .i64 0])) (_t7 : (P.toList == P.toList) = true) :
    Calls Try.prog 8 #[.slice A n c, .string s, .string rest, .int .i64 m] w fun x w' => x = .returned (.bool true) ∧ Since w w' := by
  have HS := Lib.hid (Since.refl w)
  have HX := Lib.hid hx
  have t3 : decide ((2000 : Int) < (s.size : Int)) = false := decide_eq_false (by omega)
  have t4 : decide ((100 : Int) < (rest.size : Int)) = false := decide_eq_false (by omega)
  have cA := awake_mak
  clear hx
  go_enter Try.func8, Try.ntmps8
  go_wp2_with fail
  refine (c0.calls0 HX.out) ?_
  intro w1 h1
  replace HX := Lib.hid (HX.out.since (by first | exact h1 | exact (Since.alloc (Since.refl _) _).step h1 | exact (Since.alloc (Since.alloc (Since.refl _) _) _).step h1 | exact (Since.drew (Since.refl _)).step h1 | exact (Since.alloc (Since.alloc (Since.alloc (Since.refl _) _) _) _).step h1))
  replace HS := Lib.hid (HS.out.step (by first | exact h1 | exact (Since.alloc (Since.refl _) _).step h1 | exact (Since.alloc (Since.alloc (Since.refl _) _) _).step h1 | exact (Since.drew (Since.refl _)).step h1 | exact (Since.alloc (Since.alloc (Since.alloc (Since.refl _) _) _) _).step h1))
  clear h1
  go_wp2_with fail
  refine (cT.calls0 HX.out) ?_
  intro v2 w2 hv2 h2
  have HV2 := Lib.hid hv2
  clear hv2
  replace HX := Lib.hid (HX.out.since (by first | exact h2 | exact (Since.alloc (Since.refl _) _).step h2 | exact (Since.alloc (Since.alloc (Since.refl _) _) _).step h2 | exact (Since.drew (Since.refl _)).step h2 | exact (Since.alloc (Since.alloc (Since.alloc (Since.refl _) _) _) _).step h2))
  replace HS := Lib.hid (HS.out.step (by first | exact h2 | exact (Since.alloc (Since.refl _) _).step h2 | exact (Since.alloc (Since.alloc (Since.refl _) _) _).step h2 | exact (Since.drew (Since.refl _)).step h2 | exact (Since.alloc (Since.alloc (Since.alloc (Since.refl _) _) _) _).step h2))
  clear h2
  go_wp2_with fail
  refine (c1.calls0 HV2.out) ?_
  intro w3 h3
  replace HX := Lib.hid (HX.out.since (by first | exact h3 | exact (Since.alloc (Since.refl _) _).step h3 | exact (Since.alloc (Since.alloc (Since.refl _) _) _).step h3 | exact (Since.drew (Since.refl _)).step h3 | exact (Since.alloc (Since.alloc (Since.alloc (Since.refl _) _) _) _).step h3))
  replace HS := Lib.hid (HS.out.step (by first | exact h3 | exact (Since.alloc (Since.refl _) _).step h3 | exact (Since.alloc (Since.alloc (Since.refl _) _) _).step h3 | exact (Since.drew (Since.refl _)).step h3 | exact (Since.alloc (Since.alloc (Since.alloc (Since.refl _) _) _) _).step h3))
  clear h3
  go_wp2_with fail
  refine (c3.calls0) ?_
  intro v6 w6 hv6 h6
  have HV6 := Lib.hid hv6
  clear hv6
  replace HS := Lib.hid (HS.out.step (by first | exact h6 | exact (Since.alloc (Since.refl _) _).step h6 | exact (Since.alloc (Since.alloc (Since.refl _) _) _).step h6 | exact (Since.drew (Since.refl _)).step h6 | exact (Since.alloc (Since.alloc (Since.alloc (Since.refl _) _) _) _).step h6))
  clear h6
  go_wp2_with fail
  refine (c4.calls0 HV6.out) ?_
  intro w7 h7
  replace HS := Lib.hid (HS.out.step (by first | exact h7 | exact (Since.alloc (Since.refl _) _).step h7 | exact (Since.alloc (Since.alloc (Since.refl _) _) _).step h7 | exact (Since.drew (Since.refl _)).step h7 | exact (Since.alloc (Since.alloc (Since.alloc (Since.refl _) _) _) _).step h7))
  clear h7
  go_wp2_with fail
  refine (cA.calls0) ?_
  intro w8 h8
  replace HS := Lib.hid (HS.out.step (by first | exact h8 | exact (Since.alloc (Since.refl _) _).step h8 | exact (Since.alloc (Since.alloc (Since.refl _) _) _).step h8 | exact (Since.drew (Since.refl _)).step h8 | exact (Since.alloc (Since.alloc (Since.alloc (Since.refl _) _) _) _).step h8))
  clear h8
  go_wp2_with fail
  go_ret
  exact ⟨rfl, HS.out⟩
set_option maxRecDepth 100000 in
set_option maxHeartbeats 8000000 in
theorem core_22 (w : World) (A : Option Addr) (n c : Nat) (l : List P2) (s rest : ByteArray) (m : Int) (hx : OptsS w (.slice A n c) l) (l3 : s.size ≤ 2000) (l4 : rest.size ≤ 100)
    (c0 : RdO 31 l (fun x => #[x]) (.bool true)) (cT : CallsT l) (X : ByteArray) (N E : Int) (hE : (E == 0) = false) (c1 : RdO 32 l (fun x => #[x]) (.tuple #[.string X, .int .i64 N, .int .i64 E])) (G : Int) (hG : (G != 0) = true) (c3 : MkO 35 #[.string s, .int .i64 m] [] 0 G) :
    Calls Try.prog 8 #[.slice A n c, .string s, .string rest, .int .i64 m] w fun x w' => x = .returned (.bool true) ∧ Since w w' := by
  have HS := Lib.hid (Since.refl w)
  have HX := Lib.hid hx
  have t3 : decide ((2000 : Int) < (s.size : Int)) = false := decide_eq_false (by omega)
  have t4 : decide ((100 : Int) < (rest.size : Int)) = false := decide_eq_false (by omega)
  have cA := awake_mak
  clear hx
  go_enter Try.func8, Try.ntmps8
  go_wp2_with fail
  refine (c0.calls0 HX.out) ?_
  intro w1 h1
  replace HX := Lib.hid (HX.out.since (by first | exact h1 | exact (Since.alloc (Since.refl _) _).step h1 | exact (Since.alloc (Since.alloc (Since.refl _) _) _).step h1 | exact (Since.drew (Since.refl _)).step h1 | exact (Since.alloc (Since.alloc (Since.alloc (Since.refl _) _) _) _).step h1))
  replace HS := Lib.hid (HS.out.step (by first | exact h1 | exact (Since.alloc (Since.refl _) _).step h1 | exact (Since.alloc (Since.alloc (Since.refl _) _) _).step h1 | exact (Since.drew (Since.refl _)).step h1 | exact (Since.alloc (Since.alloc (Since.alloc (Since.refl _) _) _) _).step h1))
  clear h1
  go_wp2_with fail
  refine (cT.calls0 HX.out) ?_
  intro v2 w2 hv2 h2
  have HV2 := Lib.hid hv2
  clear hv2
  replace HX := Lib.hid (HX.out.since (by first | exact h2 | exact (Since.alloc (Since.refl _) _).step h2 | exact (Since.alloc (Since.alloc (Since.refl _) _) _).step h2 | exact (Since.drew (Since.refl _)).step h2 | exact (Since.alloc (Since.alloc (Since.alloc (Since.refl _) _) _) _).step h2))
  replace HS := Lib.hid (HS.out.step (by first | exact h2 | exact (Since.alloc (Since.refl _) _).step h2 | exact (Since.alloc (Since.alloc (Since.refl _) _) _).step h2 | exact (Since.drew (Since.refl _)).step h2 | exact (Since.alloc (Since.alloc (Since.alloc (Since.refl _) _) _) _).step h2))
  clear h2
  go_wp2_with fail
  refine (c1.calls0 HV2.out) ?_
  intro w3 h3
  replace HX := Lib.hid (HX.out.since (by first | exact h3 | exact (Since.alloc (Since.refl _) _).step h3 | exact (Since.alloc (Since.alloc (Since.refl _) _) _).step h3 | exact (Since.drew (Since.refl _)).step h3 | exact (Since.alloc (Since.alloc (Since.alloc (Since.refl _) _) _) _).step h3))
  replace HS := Lib.hid (HS.out.step (by first | exact h3 | exact (Since.alloc (Since.refl _) _).step h3 | exact (Since.alloc (Since.alloc (Since.refl _) _) _).step h3 | exact (Since.drew (Since.refl _)).step h3 | exact (Since.alloc (Since.alloc (Since.alloc (Since.refl _) _) _) _).step h3))
  clear h3
  go_wp2_with fail
  refine (c3.calls0) ?_
  intro v6 w6 hv6 h6
  replace HS := Lib.hid (HS.out.step h6)
  obtain ⟨A6, d6, hv7, _⟩ := hv6.empty rfl
  subst hv7
  clear hv6 h6
  go_wp2_with fail
  refine (cA.calls0) ?_
  intro w8 h8
  replace HS := Lib.hid (HS.out.step (by first | exact h8 | exact (Since.alloc (Since.refl _) _).step h8 | exact (Since.alloc (Since.alloc (Since.refl _) _) _).step h8 | exact (Since.drew (Since.refl _)).step h8 | exact (Since.alloc (Since.alloc (Since.alloc (Since.refl _) _) _) _).step h8))
  clear h8
  go_wp2_with fail
  go_ret
  exact ⟨rfl, HS.out⟩
set_option maxRecDepth 100000 in
set_option maxHeartbeats 4000000 in
theorem core_big (w : World) (A : Option Addr) (n c : Nat) (l : List P2) (s rest : ByteArray) (m : Int) (hx : OptsS w (.slice A n c) l) (q : Bool) (hq : q = false ∨ 2000 < s.size ∨ 100 < rest.size)
    (c0 : RdO 31 l (fun x => #[x]) (.bool q)) :
    Calls Try.prog 8 #[.slice A n c, .string s, .string rest, .int .i64 m] w fun x w' => x = .returned (.bool true) ∧ Since w w' := by
  have HS := Lib.hid (Since.refl w)
  have HX := Lib.hid hx
  have cA := awake_mak
  clear hx
  cases q with
  | false =>
    clear hq
    go_enter Try.func8, Try.ntmps8
    go_wp2_with fail
    refine (c0.calls0 HX.out) ?_
    intro w1 h1
    replace HX := Lib.hid (HX.out.since (by first | exact h1 | exact (Since.alloc (Since.refl _) _).step h1 | exact (Since.alloc (Since.alloc (Since.refl _) _) _).step h1 | exact (Since.drew (Since.refl _)).step h1 | exact (Since.alloc (Since.alloc (Since.alloc (Since.refl _) _) _) _).step h1))
    replace HS := Lib.hid (HS.out.step (by first | exact h1 | exact (Since.alloc (Since.refl _) _).step h1 | exact (Since.alloc (Since.alloc (Since.refl _) _) _).step h1 | exact (Since.drew (Since.refl _)).step h1 | exact (Since.alloc (Since.alloc (Since.alloc (Since.refl _) _) _) _).step h1))
    clear h1
    go_wp2_with fail
    refine (cA.calls0) ?_
    intro w8 h8
    replace HS := Lib.hid (HS.out.step (by first | exact h8 | exact (Since.alloc (Since.refl _) _).step h8 | exact (Since.alloc (Since.alloc (Since.refl _) _) _).step h8 | exact (Since.drew (Since.refl _)).step h8 | exact (Since.alloc (Since.alloc (Since.alloc (Since.refl _) _) _) _).step h8))
    clear h8
    go_wp2_with fail
    go_ret
    exact ⟨rfl, HS.out⟩
  | true =>
    by_cases hs : 2000 < s.size
    · have t3 : decide ((2000 : Int) < (s.size : Int)) = true := decide_eq_true (by omega)
      clear hq
      go_enter Try.func8, Try.ntmps8
      go_wp2_with fail
      refine (c0.calls0 HX.out) ?_
      intro w1 h1
      replace HX := Lib.hid (HX.out.since (by first | exact h1 | exact (Since.alloc (Since.refl _) _).step h1 | exact (Since.alloc (Since.alloc (Since.refl _) _) _).step h1 | exact (Since.drew (Since.refl _)).step h1 | exact (Since.alloc (Since.alloc (Since.alloc (Since.refl _) _) _) _).step h1))
      replace HS := Lib.hid (HS.out.step (by first | exact h1 | exact (Since.alloc (Since.refl _) _).step h1 | exact (Since.alloc (Since.alloc (Since.refl _) _) _).step h1 | exact (Since.drew (Since.refl _)).step h1 | exact (Since.alloc (Since.alloc (Since.alloc (Since.refl _) _) _) _).step h1))
      clear h1
      go_wp2_with fail
      refine (cA.calls0) ?_
      intro w8 h8
      replace HS := Lib.hid (HS.out.step (by first | exact h8 | exact (Since.alloc (Since.refl _) _).step h8 | exact (Since.alloc (Since.alloc (Since.refl _) _) _).step h8 | exact (Since.drew (Since.refl _)).step h8 | exact (Since.alloc (Since.alloc (Since.alloc (Since.refl _) _) _) _).step h8))
      clear h8
      go_wp2_with fail
      go_ret
      exact ⟨rfl, HS.out⟩
    · have t3 : decide ((2000 : Int) < (s.size : Int)) = false := decide_eq_false (by omega)
      have t4 : decide ((100 : Int) < (rest.size : Int)) = true := decide_eq_true (by rcases hq with h | h | h; cases h; omega; omega)
      clear hq
      go_enter Try.func8, Try.ntmps8
      go_wp2_with fail
      refine (c0.calls0 HX.out) ?_
      intro w1 h1
      replace HX := Lib.hid (HX.out.since (by first | exact h1 | exact (Since.alloc (Since.refl _) _).step h1 | exact (Since.alloc (Since.alloc (Since.refl _) _) _).step h1 | exact (Since.drew (Since.refl _)).step h1 | exact (Since.alloc (Since.alloc (Since.alloc (Since.refl _) _) _) _).step h1))
      replace HS := Lib.hid (HS.out.step (by first | exact h1 | exact (Since.alloc (Since.refl _) _).step h1 | exact (Since.alloc (Since.alloc (Since.refl _) _) _).step h1 | exact (Since.drew (Since.refl _)).step h1 | exact (Since.alloc (Since.alloc (Since.alloc (Since.refl _) _) _) _).step h1))
      clear h1
      go_wp2_with fail
      refine (cA.calls0) ?_
      intro w8 h8
      replace HS := Lib.hid (HS.out.step (by first | exact h8 | exact (Since.alloc (Since.refl _) _).step h8 | exact (Since.alloc (Since.alloc (Since.refl _) _) _).step h8 | exact (Since.drew (Since.refl _)).step h8 | exact (Since.alloc (Since.alloc (Since.alloc (Since.refl _) _) _) _).step h8))
      clear h8
      go_wp2_with fail
      go_ret
      exact ⟨rfl, HS.out⟩
set_option maxRecDepth 100000 in
theorem walk (w : World) (A : Option Addr) (n c : Nat) (l : List P2) (s rest : ByteArray) (m : Int) (hx : OptsS w (.slice A n c) l) (_hn : n = l.length) (_hl : ∀ p ∈ l, p.1.size ≤ maxLen ∧ p.2.size ≤ maxLen) (_w1 : s.size ≤ maxLen) (_w2 : rest.size ≤ maxLen) (w3 : (Lit.int .i64 m).wf = true) :
    Calls Try.prog 8 #[.slice A n c, .string s, .string rest, .int .i64 m] w fun e w' => e = .returned (.bool true) ∧ Below w.heap.size w w' := by
  have hm := i64_of_wf w3
  by_cases hb : smallB l = false ∨ 2000 < s.size ∨ 100 < rest.size
  · exact core_big w A n c l s rest m hx _ hb (small_rd l _ rfl)
  · have hsm : smallB l = true := by cases h : smallB l with | true => rfl | false => exact absurd (Or.inl h) hb
    obtain ⟨h1, h2⟩ := smallB_spec l hsm
    have c0 := small_rd l true hsm.symm
    have cT : CallsT l := fun w x hx => theirs_rd l (by omega) w x hx
    have c1 := pack_any l (by omega) h2
    unfold packV at c1
    have c3 := unpack_any s (by omega) m _ _ _ rfl rfl rfl
    have hs2 : s.size ≤ 2000 := by omega
    have hr2 : rest.size ≤ 100 := by omega
    have second : (∃ (L : List P2) (B : Nat) (P : ByteArray), (0 : Int) ≤ (B : Int) ∧ (B : Int) ≤ (s.size : Int) ∧ max m 0 = m ∧ s.extract 0 B = P ∧ MkO 35 #[.string s, .int .i64 m] L (B : Int) 0 ∧ RdO 32 L (fun x => #[x]) (.tuple #[.string P, .int .i64 m, .int .i64 0])) ∨ MkO 35 #[.string s, .int .i64 m] [] 0 5 := by
      cases hu : unpOk s m with
      | none =>
        obtain ⟨e1, e2, e3⟩ := unp_no s m hu
        rw [e1, e2, e3] at c3
        exact Or.inr c3
      | some q =>
        obtain ⟨L, B⟩ := q
        obtain ⟨e1, e2, e3⟩ := unp_yes s m L B hu
        rw [e1, e2, e3] at c3
        obtain ⟨g1, g2, g3, g4, g5, g6⟩ := unp_some s m L B hu
        have c4 := pack_any L (by omega) (fun p hp => by have := g6 p hp; omega)
        unfold packV at c4
        rw [g3, packN_ok L g1, g2, (packE_zero L).2 g1] at c4
        exact Or.inl ⟨L, B, _, by omega, by omega, by omega, rfl, c3, c4⟩
    by_cases hk : packOk l = true
    · have hu := unp_fwd l hk rest _ rfl
      obtain ⟨e1, e2, e3⟩ := unp_yes _ _ _ _ hu
      have hXs : (packX l).size ≤ 9999 := by
        have h9 := hk
        unfold packOk at h9
        rw [Bool.and_eq_true, Bool.and_eq_true] at h9
        rw [packX_size l hk]
        exact of_decide_eq_true h9.2
      have c2 := unpack_any (packX l ++ rest) (by rw [ByteArray.size_append]; omega) (packN l) _ _ _ e1.symm e2.symm e3.symm
      rw [(packE_zero l).2 hk] at c1
      have h16 : (((packX l).size : Int) % 16 != 0) = false := bne_eq_false_iff_eq.2 (packX_mod l hk)
      rcases second with ⟨L, B, P, p1, p2, p3, p4, p5, p6⟩ | p5
      · exact core_11 w A n c l s rest m hx hs2 hr2 c0 cT _ _ P _ rfl (by omega) h16 c1 c2 (fun w x y hx hy => same_rd _ w x y hx hy) (by omega) L B ⟨p1, p2⟩ p3 p4 p5 p6 (str_eq_t rfl)
      · exact core_12 w A n c l s rest m hx hs2 hr2 c0 cT _ _ _ rfl (by omega) h16 c1 c2 (fun w x y hx hy => same_rd _ w x y hx hy) (by omega) 5 (by decide) p5
    · have hE : (packE l == 0) = false := beq_eq_false_iff_ne.2 (fun h => hk ((packE_zero l).1 h))
      rcases second with ⟨L, B, P, p1, p2, p3, p4, p5, p6⟩ | p5
      · exact core_21 w A n c l s rest m hx hs2 hr2 c0 cT _ P _ _ hE c1 L B ⟨p1, p2⟩ p3 p4 p5 p6 (str_eq_t rfl)
      · exact core_22 w A n c l s rest m hx hs2 hr2 c0 cT _ _ _ hE c1 5 (by decide) p5

set_option maxRecDepth 100000 in
theorem own : ownKnob Try.prog.godebug = none := by kernel_rfl
set_option maxRecDepth 100000 in
theorem laidOut : laidOutB Try.prog = true := by kernel_rfl

set_option maxRecDepth 100000 in
theorem lifted (os : Os) (started : os.Started) (H : Type) (enc : TypeId × Value → H) :
    ReturnsInHanded {} Try.checked os 8 .any (Rows.optionBackSpec.pre6 enc Try.prog Try.f8 Rows.optionBackRow.domain false) (Rows.optionBackSpec.post enc Try.prog Try.f8 false true false false) := by
  refine returnsInHanded_of_change (C := Try.checked) own started (by kernel_rfl) Try.func8
    (ChangeSpec.witness6 (enc := enc) (C := Try.checked) false ⟨#[], #[.slice none 0 0, .string ⟨#[]⟩, .string ⟨#[]⟩, .int .i64 0], []⟩ 8 (by kernel_rfl) (by kernel_rfl) (by kernel_rfl) (by kernel_rfl)) ?_
  intro W base args ds gs before hval0 hW hcnd _
  have hval : ∀ (j : Nat) t v, Try.f8.params[j]? = some t → args[j]? = some v → Value.okWide Try.prog W .any base t v := hval0
  have hW' := hW
  obtain ⟨p, q, hA0, hV, rfl, hfz, hnd⟩ := hW
  have hA : DataW.TrodAll enc Try.prog W 0 (fun _ => true) true Try.f8.params.toList args.toList ds p := hA0
  rw [Try.params8] at hA hval
  obtain ⟨v0, vs0, d0, ds0, p0, q0, hargs, rfl, rfl, h0, r0⟩ := trodAll_cons hA
  obtain ⟨v1, vs1, d1, ds1, p1, q1, rfl, rfl, rfl, h1, r1⟩ := trodAll_cons r0
  obtain ⟨v2, vs2, d2, ds2, p2, q2, rfl, rfl, rfl, h2, r2⟩ := trodAll_cons r1
  obtain ⟨v3, vs3, d3, ds3, p3, q3, rfl, rfl, rfl, h3, r3⟩ := trodAll_cons r2
  obtain ⟨rfl, rfl, rfl⟩ := trodAll_nil r3
  obtain rfl : args = #[v0, v1, v2, v3] := by cases args; simp_all
  obtain ⟨rfl, rfl⟩ := trodVars_none hV
  obtain ⟨a0, n0, c0, rfl⟩ := okWide_slice Try.underlying56 (hval 0 56 v0 rfl rfl)
  have h0k := h0
  obtain ⟨fuel0, hf0⟩ := h0
  have hlt0 : ∀ x ∈ p0, x.block < W.heap.size := fun x hx => by simpa using hW'.lt x (by simp [hx])
  obtain ⟨x0, lA0, lN0, lX0⟩ := opts_arg hf0 hlt0
  obtain ⟨a1, rfl, rfl, rfl, w1⟩ := Go.ChangeMaps.open_string Try.underlying9 (hval 1 9 v1 rfl rfl) h1
  obtain ⟨a2, rfl, rfl, rfl, w2⟩ := Go.ChangeMaps.open_string Try.underlying9 (hval 2 9 v2 rfl rfl) h2
  obtain ⟨a3, rfl, rfl, rfl, w3⟩ := open_int Try.underlying3 (hval 3 3 v3 rfl rfl) h3
  clear hA0 hval0
  simp only [List.append_nil] at hW'
  refine (walk W a0 n0 c0 x0 a1 a2 a3 lA0 lN0 lX0 w1 w2 w3).mono fun e W' ⟨he, hg⟩ => ?_
  subst he
  exact ⟨_, rfl, _, _, _, _, _, [], hW', (trodAll_cons_mk (shut_bool Try.underlying4 _) trodAll_mk0), (trodAll_cons_mk (Below.trod laidOut (by kernel_rfl) (of_decide_eq_true (by kernel_rfl)) h0k hg hlt0) (trodAll_cons_mk (Go.ChangeMaps.shut_string Try.underlying9 w1) (trodAll_cons_mk (Go.ChangeMaps.shut_string Try.underlying9 w2) (trodAll_cons_mk (shut_int Try.underlying3 w3) trodAll_mk0)))), rfl, hg.frame _, fun h => by cases h⟩

set_option maxRecDepth 100000 in
theorem over : Rows.optionBackRow.holds Try.pinned (OpenSpec.ofChange Rows.optionBackSpec) :=
  OpenClaim.holds_of_wide 8 Try.f8 rfl rfl rfl rfl rfl rfl rfl ⟨rfl, rfl, rfl, rfl, rfl⟩ rfl rfl rfl rfl rfl (by kernel_rfl) Try.func8 (by kernel_rfl)
    (of_decide_eq_true (by kernel_rfl)) (by unfold Func.isWrapper; first | (rw [if_pos (by decide +kernel)]; kernel_rfl) | (rw [if_neg (by decide +kernel)]; exact ⟨rfl, rfl⟩))
    (fun os started H enc _ => lifted os started H enc)

theorem proved : Rows.OptionBackSaid :=
  over

end Go.Proofs.Ytlmnidpcdibnkaa.optionBack
