/- The law FrameTells: any parts make the top, any text has the parts, that the document says, or why not; no conditions. -/
import Derived.Test.YtapjmbjoklppnaaGreatDoorRows
import Derived.WalkKit
import Derived.ProofKit
import Derived.OpenShut
import Derived.Lib.Hide
import Derived.Test.YtapjmbjoklppnaaGreatDoorFs33
import Derived.Test.YtapjmbjoklppnaaGreatDoorFs34
import Derived.Test.YtapjmbjoklppnaaGreatDoorCards
import Derived.Test.YtapjmbjoklppnaaGreatDoorTie
import Derived.LaidMore
import Derived.SevenTiedAt
import Derived.Stop.Joined
namespace Go.Proofs.YtapjmbjoklppnaaGreatDoor.frameTells
open Go.ChangeShapes Go.WideShapes Go.ChangeAt Go.RowKit
open Att Templ Header Go.Proofs.YtapjmbjoklppnaaGreatDoor.Frame

set_option maxRecDepth 100000 in
set_option maxHeartbeats 8000000 in
theorem core_0 (w : World) (l u m v e : ByteArray) (A : Option Addr) (n q : Nat) (L : List A2) (N : Int) (b : ByteArray) (hx : AttsS w (.slice A n q) L) (l1 : l.size ≤ 20) (l4 : b.size ≤ 12000)
    (c0 : Mak 5 #[.agg #[.string u, .string m, .string v, .string e]] (.bool true)) (cF : RdA 6 L (fun x => #[x, .int .i64 60]) (.bool true)) (X : ByteArray) (E : Int) (_s8 : (X.toList == X.toList) = true) (_s9 : (E == E) = true) (c1 : RdT l u m v e L N (.tuple #[.string X, .int .i64 E])) (c2 : RdR l u m v e L N (.tuple #[.string X, .int .i64 E])) (F : Int) (_sF : (F == F) = true) (c3 : KMk KH 10 #[.string b] (.tuple #[.agg Z9, .int .i64 F])) (c4 : Mak 11 #[.string b] (.tuple #[.agg Z9, .int .i64 F])) (c5 : SameF ⟨#[]⟩ ⟨#[]⟩ ⟨#[]⟩ ⟨#[]⟩ ⟨#[]⟩ [] ⟨#[]⟩ ⟨#[]⟩ ⟨#[]⟩) (hT : KH w) :
    Calls Tryz.prog 3 #[.string l, .agg #[.string u, .string m, .string v, .string e], .slice A n q, .int .i64 N, .string b] w fun x w' => x = .returned (.bool true) ∧ Since w w' := by
  have t1 : decide ((20 : Int) < (l.size : Int)) = false := decide_eq_false (by omega)
  have t4 : decide ((12000 : Int) < (b.size : Int)) = false := decide_eq_false (by omega)
  clear l1 l4
  have hp := Lib.hid (hb_new w KH hT #[.string u, .string m, .string v, .string e] 23)
  have HS := Lib.hid hp.out.since
  have HX := Lib.hid (hx.since ((Since.refl w).alloc (.cells #[.string u, .string m, .string v, .string e] 23)))
  have c9 := awake_k
  obtain ⟨_, m0, m1, m2, m3⟩ := hb4 hp
  clear hx
  go_enter Tryz.func3, Tryz.ntmps3
  go_wp2_with fail
  clear m0 m1 m2 m3
  refine (c0.calls0) ?_
  intro w1 h1
  replace hp := Lib.hid (hp.out.step (by first | exact h1 | exact (Since.alloc (Since.refl _) _).step h1 | exact (Since.alloc (Since.alloc (Since.refl _) _) _).step h1 | exact (Since.drew (Since.refl _)).step h1 | exact (Since.alloc (Since.alloc (Since.alloc (Since.refl _) _) _) _).step h1))
  replace HX := Lib.hid (HX.out.since (by first | exact h1 | exact (Since.alloc (Since.refl _) _).step h1 | exact (Since.alloc (Since.alloc (Since.refl _) _) _).step h1 | exact (Since.drew (Since.refl _)).step h1 | exact (Since.alloc (Since.alloc (Since.alloc (Since.refl _) _) _) _).step h1))
  replace HS := Lib.hid (HS.out.step (by first | exact h1 | exact (Since.alloc (Since.refl _) _).step h1 | exact (Since.alloc (Since.alloc (Since.refl _) _) _).step h1 | exact (Since.drew (Since.refl _)).step h1 | exact (Since.alloc (Since.alloc (Since.alloc (Since.refl _) _) _) _).step h1))
  clear h1
  obtain ⟨_, m0, m1, m2, m3⟩ := hb4 hp
  go_wp2_with fail
  clear m0 m1 m2 m3
  refine (cF.calls0 HX.out) ?_
  intro w2 h2
  replace hp := Lib.hid (hp.out.step (by first | exact h2 | exact (Since.alloc (Since.refl _) _).step h2 | exact (Since.alloc (Since.alloc (Since.refl _) _) _).step h2 | exact (Since.drew (Since.refl _)).step h2 | exact (Since.alloc (Since.alloc (Since.alloc (Since.refl _) _) _) _).step h2))
  replace HX := Lib.hid (HX.out.since (by first | exact h2 | exact (Since.alloc (Since.refl _) _).step h2 | exact (Since.alloc (Since.alloc (Since.refl _) _) _).step h2 | exact (Since.drew (Since.refl _)).step h2 | exact (Since.alloc (Since.alloc (Since.alloc (Since.refl _) _) _) _).step h2))
  replace HS := Lib.hid (HS.out.step (by first | exact h2 | exact (Since.alloc (Since.refl _) _).step h2 | exact (Since.alloc (Since.alloc (Since.refl _) _) _).step h2 | exact (Since.drew (Since.refl _)).step h2 | exact (Since.alloc (Since.alloc (Since.alloc (Since.refl _) _) _) _).step h2))
  clear h2
  obtain ⟨_, m0, m1, m2, m3⟩ := hb4 hp
  go_wp2_with fail
  clear m0 m1 m2 m3
  refine (c1.calls0 hp.out.tabs HX.out) ?_
  intro w3 h3
  replace hp := Lib.hid (hp.out.step (by first | exact h3 | exact (Since.alloc (Since.refl _) _).step h3 | exact (Since.alloc (Since.alloc (Since.refl _) _) _).step h3 | exact (Since.drew (Since.refl _)).step h3 | exact (Since.alloc (Since.alloc (Since.alloc (Since.refl _) _) _) _).step h3))
  replace HX := Lib.hid (HX.out.since (by first | exact h3 | exact (Since.alloc (Since.refl _) _).step h3 | exact (Since.alloc (Since.alloc (Since.refl _) _) _).step h3 | exact (Since.drew (Since.refl _)).step h3 | exact (Since.alloc (Since.alloc (Since.alloc (Since.refl _) _) _) _).step h3))
  replace HS := Lib.hid (HS.out.step (by first | exact h3 | exact (Since.alloc (Since.refl _) _).step h3 | exact (Since.alloc (Since.alloc (Since.refl _) _) _).step h3 | exact (Since.drew (Since.refl _)).step h3 | exact (Since.alloc (Since.alloc (Since.alloc (Since.refl _) _) _) _).step h3))
  clear h3
  obtain ⟨_, m0, m1, m2, m3⟩ := hb4 hp
  go_wp2_with fail
  clear m0 m1 m2 m3
  refine (c2.calls0 HX.out) ?_
  intro w4 h4
  replace hp := Lib.hid (hp.out.step (by first | exact h4 | exact (Since.alloc (Since.refl _) _).step h4 | exact (Since.alloc (Since.alloc (Since.refl _) _) _).step h4 | exact (Since.drew (Since.refl _)).step h4 | exact (Since.alloc (Since.alloc (Since.alloc (Since.refl _) _) _) _).step h4))
  replace HS := Lib.hid (HS.out.step (by first | exact h4 | exact (Since.alloc (Since.refl _) _).step h4 | exact (Since.alloc (Since.alloc (Since.refl _) _) _).step h4 | exact (Since.drew (Since.refl _)).step h4 | exact (Since.alloc (Since.alloc (Since.alloc (Since.refl _) _) _) _).step h4))
  clear h4
  go_wp2_with fail
  unfold Z9 at c3 c4
  refine (c3.calls0 hp.out.tabs) ?_
  intro w5 h5
  replace hp := Lib.hid (hp.out.step (by first | exact h5 | exact (Since.alloc (Since.refl _) _).step h5 | exact (Since.alloc (Since.alloc (Since.refl _) _) _).step h5 | exact (Since.drew (Since.refl _)).step h5 | exact (Since.alloc (Since.alloc (Since.alloc (Since.refl _) _) _) _).step h5))
  replace HS := Lib.hid (HS.out.step (by first | exact h5 | exact (Since.alloc (Since.refl _) _).step h5 | exact (Since.alloc (Since.alloc (Since.refl _) _) _).step h5 | exact (Since.drew (Since.refl _)).step h5 | exact (Since.alloc (Since.alloc (Since.alloc (Since.refl _) _) _) _).step h5))
  clear h5
  have hq := Lib.hid (hb_new w5 KH hp.out.tabs #[.string ⟨#[]⟩, .string ⟨#[]⟩, .string ⟨#[]⟩, .string ⟨#[]⟩, .string ⟨#[]⟩, .slice none 0 0, .string ⟨#[]⟩, .string ⟨#[]⟩, .string ⟨#[]⟩] 32)
  replace HS := Lib.hid (HS.out.step hq.out.since)
  clear hp
  go_wp2_with fail
  refine (c4.calls0) ?_
  intro w6 h6
  replace hq := Lib.hid (hq.out.step (by first | exact h6 | exact (Since.alloc (Since.refl _) _).step h6 | exact (Since.alloc (Since.alloc (Since.refl _) _) _).step h6 | exact (Since.drew (Since.refl _)).step h6 | exact (Since.alloc (Since.alloc (Since.alloc (Since.refl _) _) _) _).step h6))
  replace HS := Lib.hid (HS.out.step (by first | exact h6 | exact (Since.alloc (Since.refl _) _).step h6 | exact (Since.alloc (Since.alloc (Since.refl _) _) _).step h6 | exact (Since.drew (Since.refl _)).step h6 | exact (Since.alloc (Since.alloc (Since.alloc (Since.refl _) _) _) _).step h6))
  clear h6
  have hk := Lib.hid (hb_new w6 KH hq.out.tabs #[.string ⟨#[]⟩, .string ⟨#[]⟩, .string ⟨#[]⟩, .string ⟨#[]⟩, .string ⟨#[]⟩, .slice none 0 0, .string ⟨#[]⟩, .string ⟨#[]⟩, .string ⟨#[]⟩] 35)
  replace hq := Lib.hid (hq.out.step ((Below.refl _ w6).alloc (Nat.le_refl _) (.cells #[.string ⟨#[]⟩, .string ⟨#[]⟩, .string ⟨#[]⟩, .string ⟨#[]⟩, .string ⟨#[]⟩, .slice none 0 0, .string ⟨#[]⟩, .string ⟨#[]⟩, .string ⟨#[]⟩] 35)))
  replace HS := Lib.hid (HS.out.step hk.out.since)
  obtain ⟨n0, n1, n2, n3, n4, n5, n6, n7, n8⟩ := hb9 hq.out
  obtain ⟨k0, k1, k2, k3, k4, k5, k6, k7, k8⟩ := hb9 hk.out
  go_wp2_with fail
  refine c5.calls0 (AttsS.nil _) (AttsS.nil _) ?_
  intro w7 h7
  clear n0 n1 n2 n3 n4 n5 n6 n7 n8 k0 k1 k2 k3 k4 k5 k6 k7 k8
  replace hk := Lib.hid (hk.out.step h7)
  replace HS := Lib.hid (HS.out.step h7)
  clear h7 hq
  go_wp2_with fail
  refine (c9.calls0 hk.out.tabs) ?_
  intro w8 h8
  replace HS := Lib.hid (HS.out.step (by first | exact h8 | exact (Since.alloc (Since.refl _) _).step h8 | exact (Since.alloc (Since.alloc (Since.refl _) _) _).step h8 | exact (Since.drew (Since.refl _)).step h8 | exact (Since.alloc (Since.alloc (Since.alloc (Since.refl _) _) _) _).step h8))
  clear h8
  go_wp2_with fail
  go_ret
  exact ⟨rfl, HS.out⟩
set_option maxRecDepth 100000 in
set_option maxHeartbeats 8000000 in
theorem core_1 (w : World) (l u m v e : ByteArray) (A : Option Addr) (n q : Nat) (L : List A2) (N : Int) (b : ByteArray) (hx : AttsS w (.slice A n q) L) (l1 : l.size ≤ 20) (l4 : b.size ≤ 12000)
    (c0 : Mak 5 #[.agg #[.string u, .string m, .string v, .string e]] (.bool true)) (cF : RdA 6 L (fun x => #[x, .int .i64 60]) (.bool true)) (X : ByteArray) (E : Int) (_s8 : (X.toList == X.toList) = true) (_s9 : (E == E) = true) (c1 : RdT l u m v e L N (.tuple #[.string X, .int .i64 E])) (c2 : RdR l u m v e L N (.tuple #[.string X, .int .i64 E])) (l' u' m' v' e' : ByteArray) (L' : List A2) (P' C' G' : ByteArray) (c3 : CutOk b l' u' m' v' e' L' P' C' G') (c4 : CutR b l' u' m' v' e' L' P' C' G') (c5 : SameF l' u' m' v' e' L' P' C' G') (hT : KH w) :
    Calls Tryz.prog 3 #[.string l, .agg #[.string u, .string m, .string v, .string e], .slice A n q, .int .i64 N, .string b] w fun x w' => x = .returned (.bool true) ∧ Since w w' := by
  have t1 : decide ((20 : Int) < (l.size : Int)) = false := decide_eq_false (by omega)
  have t4 : decide ((12000 : Int) < (b.size : Int)) = false := decide_eq_false (by omega)
  clear l1 l4
  have hp := Lib.hid (hb_new w KH hT #[.string u, .string m, .string v, .string e] 23)
  have HS := Lib.hid hp.out.since
  have HX := Lib.hid (hx.since ((Since.refl w).alloc (.cells #[.string u, .string m, .string v, .string e] 23)))
  have c9 := awake_k
  obtain ⟨_, m0, m1, m2, m3⟩ := hb4 hp
  clear hx
  go_enter Tryz.func3, Tryz.ntmps3
  go_wp2_with fail
  clear m0 m1 m2 m3
  refine (c0.calls0) ?_
  intro w1 h1
  replace hp := Lib.hid (hp.out.step (by first | exact h1 | exact (Since.alloc (Since.refl _) _).step h1 | exact (Since.alloc (Since.alloc (Since.refl _) _) _).step h1 | exact (Since.drew (Since.refl _)).step h1 | exact (Since.alloc (Since.alloc (Since.alloc (Since.refl _) _) _) _).step h1))
  replace HX := Lib.hid (HX.out.since (by first | exact h1 | exact (Since.alloc (Since.refl _) _).step h1 | exact (Since.alloc (Since.alloc (Since.refl _) _) _).step h1 | exact (Since.drew (Since.refl _)).step h1 | exact (Since.alloc (Since.alloc (Since.alloc (Since.refl _) _) _) _).step h1))
  replace HS := Lib.hid (HS.out.step (by first | exact h1 | exact (Since.alloc (Since.refl _) _).step h1 | exact (Since.alloc (Since.alloc (Since.refl _) _) _).step h1 | exact (Since.drew (Since.refl _)).step h1 | exact (Since.alloc (Since.alloc (Since.alloc (Since.refl _) _) _) _).step h1))
  clear h1
  obtain ⟨_, m0, m1, m2, m3⟩ := hb4 hp
  go_wp2_with fail
  clear m0 m1 m2 m3
  refine (cF.calls0 HX.out) ?_
  intro w2 h2
  replace hp := Lib.hid (hp.out.step (by first | exact h2 | exact (Since.alloc (Since.refl _) _).step h2 | exact (Since.alloc (Since.alloc (Since.refl _) _) _).step h2 | exact (Since.drew (Since.refl _)).step h2 | exact (Since.alloc (Since.alloc (Since.alloc (Since.refl _) _) _) _).step h2))
  replace HX := Lib.hid (HX.out.since (by first | exact h2 | exact (Since.alloc (Since.refl _) _).step h2 | exact (Since.alloc (Since.alloc (Since.refl _) _) _).step h2 | exact (Since.drew (Since.refl _)).step h2 | exact (Since.alloc (Since.alloc (Since.alloc (Since.refl _) _) _) _).step h2))
  replace HS := Lib.hid (HS.out.step (by first | exact h2 | exact (Since.alloc (Since.refl _) _).step h2 | exact (Since.alloc (Since.alloc (Since.refl _) _) _).step h2 | exact (Since.drew (Since.refl _)).step h2 | exact (Since.alloc (Since.alloc (Since.alloc (Since.refl _) _) _) _).step h2))
  clear h2
  obtain ⟨_, m0, m1, m2, m3⟩ := hb4 hp
  go_wp2_with fail
  clear m0 m1 m2 m3
  refine (c1.calls0 hp.out.tabs HX.out) ?_
  intro w3 h3
  replace hp := Lib.hid (hp.out.step (by first | exact h3 | exact (Since.alloc (Since.refl _) _).step h3 | exact (Since.alloc (Since.alloc (Since.refl _) _) _).step h3 | exact (Since.drew (Since.refl _)).step h3 | exact (Since.alloc (Since.alloc (Since.alloc (Since.refl _) _) _) _).step h3))
  replace HX := Lib.hid (HX.out.since (by first | exact h3 | exact (Since.alloc (Since.refl _) _).step h3 | exact (Since.alloc (Since.alloc (Since.refl _) _) _).step h3 | exact (Since.drew (Since.refl _)).step h3 | exact (Since.alloc (Since.alloc (Since.alloc (Since.refl _) _) _) _).step h3))
  replace HS := Lib.hid (HS.out.step (by first | exact h3 | exact (Since.alloc (Since.refl _) _).step h3 | exact (Since.alloc (Since.alloc (Since.refl _) _) _).step h3 | exact (Since.drew (Since.refl _)).step h3 | exact (Since.alloc (Since.alloc (Since.alloc (Since.refl _) _) _) _).step h3))
  clear h3
  obtain ⟨_, m0, m1, m2, m3⟩ := hb4 hp
  go_wp2_with fail
  clear m0 m1 m2 m3
  refine (c2.calls0 HX.out) ?_
  intro w4 h4
  replace hp := Lib.hid (hp.out.step (by first | exact h4 | exact (Since.alloc (Since.refl _) _).step h4 | exact (Since.alloc (Since.alloc (Since.refl _) _) _).step h4 | exact (Since.drew (Since.refl _)).step h4 | exact (Since.alloc (Since.alloc (Since.alloc (Since.refl _) _) _) _).step h4))
  replace HS := Lib.hid (HS.out.step (by first | exact h4 | exact (Since.alloc (Since.refl _) _).step h4 | exact (Since.alloc (Since.alloc (Since.refl _) _) _).step h4 | exact (Since.drew (Since.refl _)).step h4 | exact (Since.alloc (Since.alloc (Since.alloc (Since.refl _) _) _) _).step h4))
  clear h4
  go_wp2_with fail
  refine c3.calls0 hp.out.tabs ?_
  intro a2 w5 ha h5
  replace hp := Lib.hid (hp.out.step h5)
  replace HS := Lib.hid (HS.out.step h5)
  obtain ⟨A2, d2, hav, _⟩ := ha.slice
  subst hav
  unfold C9
  have hq := Lib.hid (hb_new w5 KH hp.out.tabs #[.string l', .string u', .string m', .string v', .string e', .slice A2 L'.length d2, .string P', .string C', .string G'] 32)
  have HA := Lib.hid (ha.since hq.out.since)
  replace HS := Lib.hid (HS.out.step hq.out.since)
  clear h5 ha hp
  go_wp2_with fail
  refine c4.calls0 ?_
  intro a3 w6 ha h6
  replace hq := Lib.hid (hq.out.step h6)
  replace HA := Lib.hid (HA.out.since h6)
  replace HS := Lib.hid (HS.out.step h6)
  obtain ⟨A3, d3, hav, _⟩ := ha.slice
  subst hav
  unfold C9
  have hk := Lib.hid (hb_new w6 KH hq.out.tabs #[.string l', .string u', .string m', .string v', .string e', .slice A3 L'.length d3, .string P', .string C', .string G'] 35)
  replace hq := Lib.hid (hq.out.step ((Below.refl _ w6).alloc (Nat.le_refl _) (.cells #[.string l', .string u', .string m', .string v', .string e', .slice A3 L'.length d3, .string P', .string C', .string G'] 35)))
  replace HA := Lib.hid (HA.out.since hk.out.since)
  have HB := Lib.hid (ha.since hk.out.since)
  replace HS := Lib.hid (HS.out.step hk.out.since)
  clear h6 ha
  obtain ⟨n0, n1, n2, n3, n4, n5, n6, n7, n8⟩ := hb9 hq.out
  obtain ⟨k0, k1, k2, k3, k4, k5, k6, k7, k8⟩ := hb9 hk.out
  go_wp2_with fail
  refine c5.calls0 HA.out HB.out ?_
  intro w7 h7
  clear n0 n1 n2 n3 n4 n5 n6 n7 n8 k0 k1 k2 k3 k4 k5 k6 k7 k8
  replace hk := Lib.hid (hk.out.step h7)
  replace HS := Lib.hid (HS.out.step h7)
  clear h7 hq HA HB
  go_wp2_with fail
  refine (c9.calls0 hk.out.tabs) ?_
  intro w8 h8
  replace HS := Lib.hid (HS.out.step (by first | exact h8 | exact (Since.alloc (Since.refl _) _).step h8 | exact (Since.alloc (Since.alloc (Since.refl _) _) _).step h8 | exact (Since.drew (Since.refl _)).step h8 | exact (Since.alloc (Since.alloc (Since.alloc (Since.refl _) _) _) _).step h8))
  clear h8
  go_wp2_with fail
  go_ret
  exact ⟨rfl, HS.out⟩
set_option maxRecDepth 100000 in
set_option maxHeartbeats 4000000 in
theorem big_1 (w : World) (l u m v e : ByteArray) (A : Option Addr) (n q : Nat) (L : List A2) (N : Int) (b : ByteArray) (hx : AttsS w (.slice A n q) L) (l1 : 20 < l.size) (hT : KH w) :
    Calls Tryz.prog 3 #[.string l, .agg #[.string u, .string m, .string v, .string e], .slice A n q, .int .i64 N, .string b] w fun x w' => x = .returned (.bool true) ∧ Since w w' := by
  have t1 : decide ((20 : Int) < (l.size : Int)) = true := decide_eq_true (by omega)
  clear l1
  have hp := Lib.hid (hb_new w KH hT #[.string u, .string m, .string v, .string e] 23)
  have HS := Lib.hid hp.out.since
  have HX := Lib.hid (hx.since ((Since.refl w).alloc (.cells #[.string u, .string m, .string v, .string e] 23)))
  have c9 := awake_k
  obtain ⟨_, m0, m1, m2, m3⟩ := hb4 hp
  clear hx
  go_enter Tryz.func3, Tryz.ntmps3
  go_wp2_with fail
  clear m0 m1 m2 m3
  skip
  refine (c9.calls0 hp.out.tabs) ?_
  intro w3 h3
  replace HS := Lib.hid (HS.out.step (by first | exact h3 | exact (Since.alloc (Since.refl _) _).step h3 | exact (Since.alloc (Since.alloc (Since.refl _) _) _).step h3 | exact (Since.drew (Since.refl _)).step h3 | exact (Since.alloc (Since.alloc (Since.alloc (Since.refl _) _) _) _).step h3))
  clear h3
  go_wp2_with fail
  go_ret
  exact ⟨rfl, HS.out⟩
set_option maxRecDepth 100000 in
set_option maxHeartbeats 4000000 in
theorem big_2 (w : World) (l u m v e : ByteArray) (A : Option Addr) (n q : Nat) (L : List A2) (N : Int) (b : ByteArray) (hx : AttsS w (.slice A n q) L) (l1 : l.size ≤ 20) (c0 : Mak 5 #[.agg #[.string u, .string m, .string v, .string e]] (.bool false)) (hT : KH w) :
    Calls Tryz.prog 3 #[.string l, .agg #[.string u, .string m, .string v, .string e], .slice A n q, .int .i64 N, .string b] w fun x w' => x = .returned (.bool true) ∧ Since w w' := by
  have t1 : decide ((20 : Int) < (l.size : Int)) = false := decide_eq_false (by omega)
  clear l1
  have hp := Lib.hid (hb_new w KH hT #[.string u, .string m, .string v, .string e] 23)
  have HS := Lib.hid hp.out.since
  have HX := Lib.hid (hx.since ((Since.refl w).alloc (.cells #[.string u, .string m, .string v, .string e] 23)))
  have c9 := awake_k
  obtain ⟨_, m0, m1, m2, m3⟩ := hb4 hp
  clear hx
  go_enter Tryz.func3, Tryz.ntmps3
  go_wp2_with fail
  clear m0 m1 m2 m3
  refine (c0.calls0) ?_
  intro w1 h1
  replace hp := Lib.hid (hp.out.step (by first | exact h1 | exact (Since.alloc (Since.refl _) _).step h1 | exact (Since.alloc (Since.alloc (Since.refl _) _) _).step h1 | exact (Since.drew (Since.refl _)).step h1 | exact (Since.alloc (Since.alloc (Since.alloc (Since.refl _) _) _) _).step h1))
  replace HX := Lib.hid (HX.out.since (by first | exact h1 | exact (Since.alloc (Since.refl _) _).step h1 | exact (Since.alloc (Since.alloc (Since.refl _) _) _).step h1 | exact (Since.drew (Since.refl _)).step h1 | exact (Since.alloc (Since.alloc (Since.alloc (Since.refl _) _) _) _).step h1))
  replace HS := Lib.hid (HS.out.step (by first | exact h1 | exact (Since.alloc (Since.refl _) _).step h1 | exact (Since.alloc (Since.alloc (Since.refl _) _) _).step h1 | exact (Since.drew (Since.refl _)).step h1 | exact (Since.alloc (Since.alloc (Since.alloc (Since.refl _) _) _) _).step h1))
  clear h1
  obtain ⟨_, m0, m1, m2, m3⟩ := hb4 hp
  go_wp2_with fail
  clear m0 m1 m2 m3
  refine (c9.calls0 hp.out.tabs) ?_
  intro w3 h3
  replace HS := Lib.hid (HS.out.step (by first | exact h3 | exact (Since.alloc (Since.refl _) _).step h3 | exact (Since.alloc (Since.alloc (Since.refl _) _) _).step h3 | exact (Since.drew (Since.refl _)).step h3 | exact (Since.alloc (Since.alloc (Since.alloc (Since.refl _) _) _) _).step h3))
  clear h3
  go_wp2_with fail
  go_ret
  exact ⟨rfl, HS.out⟩
set_option maxRecDepth 100000 in
set_option maxHeartbeats 4000000 in
theorem big_3 (w : World) (l u m v e : ByteArray) (A : Option Addr) (n q : Nat) (L : List A2) (N : Int) (b : ByteArray) (hx : AttsS w (.slice A n q) L) (l1 : l.size ≤ 20) (c0 : Mak 5 #[.agg #[.string u, .string m, .string v, .string e]] (.bool true)) (cF : RdA 6 L (fun x => #[x, .int .i64 60]) (.bool false)) (hT : KH w) :
    Calls Tryz.prog 3 #[.string l, .agg #[.string u, .string m, .string v, .string e], .slice A n q, .int .i64 N, .string b] w fun x w' => x = .returned (.bool true) ∧ Since w w' := by
  have t1 : decide ((20 : Int) < (l.size : Int)) = false := decide_eq_false (by omega)
  clear l1
  have hp := Lib.hid (hb_new w KH hT #[.string u, .string m, .string v, .string e] 23)
  have HS := Lib.hid hp.out.since
  have HX := Lib.hid (hx.since ((Since.refl w).alloc (.cells #[.string u, .string m, .string v, .string e] 23)))
  have c9 := awake_k
  obtain ⟨_, m0, m1, m2, m3⟩ := hb4 hp
  clear hx
  go_enter Tryz.func3, Tryz.ntmps3
  go_wp2_with fail
  clear m0 m1 m2 m3
  refine (c0.calls0) ?_
  intro w1 h1
  replace hp := Lib.hid (hp.out.step (by first | exact h1 | exact (Since.alloc (Since.refl _) _).step h1 | exact (Since.alloc (Since.alloc (Since.refl _) _) _).step h1 | exact (Since.drew (Since.refl _)).step h1 | exact (Since.alloc (Since.alloc (Since.alloc (Since.refl _) _) _) _).step h1))
  replace HX := Lib.hid (HX.out.since (by first | exact h1 | exact (Since.alloc (Since.refl _) _).step h1 | exact (Since.alloc (Since.alloc (Since.refl _) _) _).step h1 | exact (Since.drew (Since.refl _)).step h1 | exact (Since.alloc (Since.alloc (Since.alloc (Since.refl _) _) _) _).step h1))
  replace HS := Lib.hid (HS.out.step (by first | exact h1 | exact (Since.alloc (Since.refl _) _).step h1 | exact (Since.alloc (Since.alloc (Since.refl _) _) _).step h1 | exact (Since.drew (Since.refl _)).step h1 | exact (Since.alloc (Since.alloc (Since.alloc (Since.refl _) _) _) _).step h1))
  clear h1
  obtain ⟨_, m0, m1, m2, m3⟩ := hb4 hp
  go_wp2_with fail
  clear m0 m1 m2 m3
  refine (cF.calls0 HX.out) ?_
  intro w2 h2
  replace hp := Lib.hid (hp.out.step (by first | exact h2 | exact (Since.alloc (Since.refl _) _).step h2 | exact (Since.alloc (Since.alloc (Since.refl _) _) _).step h2 | exact (Since.drew (Since.refl _)).step h2 | exact (Since.alloc (Since.alloc (Since.alloc (Since.refl _) _) _) _).step h2))
  replace HX := Lib.hid (HX.out.since (by first | exact h2 | exact (Since.alloc (Since.refl _) _).step h2 | exact (Since.alloc (Since.alloc (Since.refl _) _) _).step h2 | exact (Since.drew (Since.refl _)).step h2 | exact (Since.alloc (Since.alloc (Since.alloc (Since.refl _) _) _) _).step h2))
  replace HS := Lib.hid (HS.out.step (by first | exact h2 | exact (Since.alloc (Since.refl _) _).step h2 | exact (Since.alloc (Since.alloc (Since.refl _) _) _).step h2 | exact (Since.drew (Since.refl _)).step h2 | exact (Since.alloc (Since.alloc (Since.alloc (Since.refl _) _) _) _).step h2))
  clear h2
  obtain ⟨_, m0, m1, m2, m3⟩ := hb4 hp
  go_wp2_with fail
  clear m0 m1 m2 m3
  refine (c9.calls0 hp.out.tabs) ?_
  intro w3 h3
  replace HS := Lib.hid (HS.out.step (by first | exact h3 | exact (Since.alloc (Since.refl _) _).step h3 | exact (Since.alloc (Since.alloc (Since.refl _) _) _).step h3 | exact (Since.drew (Since.refl _)).step h3 | exact (Since.alloc (Since.alloc (Since.alloc (Since.refl _) _) _) _).step h3))
  clear h3
  go_wp2_with fail
  go_ret
  exact ⟨rfl, HS.out⟩
set_option maxRecDepth 100000 in
set_option maxHeartbeats 4000000 in
theorem big_4 (w : World) (l u m v e : ByteArray) (A : Option Addr) (n q : Nat) (L : List A2) (N : Int) (b : ByteArray) (hx : AttsS w (.slice A n q) L) (l1 : l.size ≤ 20) (l4 : 12000 < b.size) (c0 : Mak 5 #[.agg #[.string u, .string m, .string v, .string e]] (.bool true)) (cF : RdA 6 L (fun x => #[x, .int .i64 60]) (.bool true)) (hT : KH w) :
    Calls Tryz.prog 3 #[.string l, .agg #[.string u, .string m, .string v, .string e], .slice A n q, .int .i64 N, .string b] w fun x w' => x = .returned (.bool true) ∧ Since w w' := by
  have t1 : decide ((20 : Int) < (l.size : Int)) = false := decide_eq_false (by omega)
  have t2 : decide ((12000 : Int) < (b.size : Int)) = true := decide_eq_true (by omega)
  clear l1 l4
  have hp := Lib.hid (hb_new w KH hT #[.string u, .string m, .string v, .string e] 23)
  have HS := Lib.hid hp.out.since
  have HX := Lib.hid (hx.since ((Since.refl w).alloc (.cells #[.string u, .string m, .string v, .string e] 23)))
  have c9 := awake_k
  obtain ⟨_, m0, m1, m2, m3⟩ := hb4 hp
  clear hx
  go_enter Tryz.func3, Tryz.ntmps3
  go_wp2_with fail
  clear m0 m1 m2 m3
  refine (c0.calls0) ?_
  intro w1 h1
  replace hp := Lib.hid (hp.out.step (by first | exact h1 | exact (Since.alloc (Since.refl _) _).step h1 | exact (Since.alloc (Since.alloc (Since.refl _) _) _).step h1 | exact (Since.drew (Since.refl _)).step h1 | exact (Since.alloc (Since.alloc (Since.alloc (Since.refl _) _) _) _).step h1))
  replace HX := Lib.hid (HX.out.since (by first | exact h1 | exact (Since.alloc (Since.refl _) _).step h1 | exact (Since.alloc (Since.alloc (Since.refl _) _) _).step h1 | exact (Since.drew (Since.refl _)).step h1 | exact (Since.alloc (Since.alloc (Since.alloc (Since.refl _) _) _) _).step h1))
  replace HS := Lib.hid (HS.out.step (by first | exact h1 | exact (Since.alloc (Since.refl _) _).step h1 | exact (Since.alloc (Since.alloc (Since.refl _) _) _).step h1 | exact (Since.drew (Since.refl _)).step h1 | exact (Since.alloc (Since.alloc (Since.alloc (Since.refl _) _) _) _).step h1))
  clear h1
  obtain ⟨_, m0, m1, m2, m3⟩ := hb4 hp
  go_wp2_with fail
  clear m0 m1 m2 m3
  refine (cF.calls0 HX.out) ?_
  intro w2 h2
  replace hp := Lib.hid (hp.out.step (by first | exact h2 | exact (Since.alloc (Since.refl _) _).step h2 | exact (Since.alloc (Since.alloc (Since.refl _) _) _).step h2 | exact (Since.drew (Since.refl _)).step h2 | exact (Since.alloc (Since.alloc (Since.alloc (Since.refl _) _) _) _).step h2))
  replace HX := Lib.hid (HX.out.since (by first | exact h2 | exact (Since.alloc (Since.refl _) _).step h2 | exact (Since.alloc (Since.alloc (Since.refl _) _) _).step h2 | exact (Since.drew (Since.refl _)).step h2 | exact (Since.alloc (Since.alloc (Since.alloc (Since.refl _) _) _) _).step h2))
  replace HS := Lib.hid (HS.out.step (by first | exact h2 | exact (Since.alloc (Since.refl _) _).step h2 | exact (Since.alloc (Since.alloc (Since.refl _) _) _).step h2 | exact (Since.drew (Since.refl _)).step h2 | exact (Since.alloc (Since.alloc (Since.alloc (Since.refl _) _) _) _).step h2))
  clear h2
  obtain ⟨_, m0, m1, m2, m3⟩ := hb4 hp
  go_wp2_with fail
  clear m0 m1 m2 m3
  refine (c9.calls0 hp.out.tabs) ?_
  intro w3 h3
  replace HS := Lib.hid (HS.out.step (by first | exact h3 | exact (Since.alloc (Since.refl _) _).step h3 | exact (Since.alloc (Since.alloc (Since.refl _) _) _).step h3 | exact (Since.drew (Since.refl _)).step h3 | exact (Since.alloc (Since.alloc (Since.alloc (Since.refl _) _) _) _).step h3))
  clear h3
  go_wp2_with fail
  go_ret
  exact ⟨rfl, HS.out⟩
theorem head_sizes {u m v e : ByteArray} (h : Plain.headB u m v e = true) : u.size ≤ 100 ∧ m.size ≤ 100 ∧ v.size ≤ 100 ∧ e.size ≤ 100 := by
  unfold Plain.headB at h
  simp only [Bool.and_eq_true, decide_eq_true_eq] at h
  omega
set_option maxRecDepth 100000 in
theorem walk (w : World) (l u m v e : ByteArray) (A : Option Addr) (n q : Nat) (L : List A2) (N : Int) (b : ByteArray) (_f0 : l.size ≤ maxLen) (_f1 : u.size ≤ maxLen) (_f2 : m.size ≤ maxLen) (_f3 : v.size ≤ maxLen) (_f4 : e.size ≤ maxLen)
    (hx : AttsS w (.slice A n q) L) (_hn : n = L.length) (_hl : ∀ p ∈ L, (Lit.int .i64 p.1).wf = true ∧ p.2.size ≤ maxLen) (_wN : (Lit.int .i64 N).wf = true) (_w5 : b.size ≤ maxLen) (hT : KH w) :
    Calls Tryz.prog 3 #[.string l, .agg #[.string u, .string m, .string v, .string e], .slice A n q, .int .i64 N, .string b] w fun x w' => x = .returned (.bool true) ∧ Below w.heap.size w w' := by
  by_cases l1 : 20 < l.size
  · exact big_1 w l u m v e A n q L N b hx l1 hT
  replace l1 : l.size ≤ 20 := by omega
  have c0 := Plain.head_mak u m v e _ rfl
  cases hq : Plain.headB u m v e with
  | false => rw [hq] at c0; exact big_2 w l u m v e A n q L N b hx l1 c0 hT
  | true =>
    rw [hq] at c0
    have cF := few_rd L 60 (by decide) _ rfl
    cases hf : fewB L 60 with
    | false => rw [hf] at cF; exact big_3 w l u m v e A n q L N b hx l1 c0 cF hT
    | true =>
      rw [hf] at cF
      by_cases l4 : 12000 < b.size
      · exact big_4 w l u m v e A n q L N b hx l1 l4 c0 cF hT
      replace l4 : b.size ≤ 12000 := by omega
      have c1 := top_any l u m v e L N (head_sizes hq)
      have c2 := rtop_any l u m v e L N (head_sizes hq)
      by_cases hb : cutE b = 0
      · exact core_1 w l u m v e A n q L N b hx l1 l4 c0 cF _ _ (beq_self_eq_true _) (beq_self_eq_true _) c1 c2 _ _ _ _ _ _ _ _ _ (cut_ok b hb) (rcut_good b hb) (same_rd _ _ _ _ _ _ _ _ _) hT
      · exact core_0 w l u m v e A n q L N b hx l1 l4 c0 cF _ _ (beq_self_eq_true _) (beq_self_eq_true _) c1 c2 _ (beq_self_eq_true _) (cut_bad b _ (split_bad b (by omega) hb)) (rcut_bad b (by omega) hb) (same_rd _ _ _ _ _ _ _ _ _) hT

set_option maxRecDepth 100000 in
theorem own : ownKnob Tryz.prog.godebug = none := by kernel_rfl
set_option maxRecDepth 100000 in
theorem laidOut : laidOutB Tryz.prog = true := by kernel_rfl

def laidL {H : Type} : List (String × DataW H) := [("claviger/kind.lines", Rows.laid_claviger_kind_lines), ("claviger/table.lines", Rows.laid_claviger_table_lines)]
set_option maxRecDepth 100000 in
theorem door_met (os : Os) (args : Array Value) : laidMetH Tryz.prog laidL ((World.doorLaid Tryz.prog 400 os).forCall (fun _ _ => 0) ⟨#[], args, []⟩).memory :=
  laidMetH_of_parts3 (fuel := 8) (laidMet_of_run' 8 (by kernel_rfl) (by kernel_rfl)) (by kernel_rfl) (by kernel_rfl)
set_option maxRecDepth 100000 in
theorem lifted (os : Os) (started : os.Started) (H : Type) (enc : TypeId × Value → H) :
    ReturnsInHanded {} Tryz.checked os 3 .any (fun w args => (Rows.frameTellsSpec.pre enc Tryz.prog Tryz.f3 [] false w args ∧ laidMetH Tryz.prog laidL w) ∧ sizedMet enc Tryz.prog Tryz.f3 (OpenSpec.ofChange Rows.frameTellsSpec) false w args)
      (Rows.frameTellsSpec.post enc Tryz.prog Tryz.f3 false true false false) := by
  refine returnsInHanded_of_change_and (C := Tryz.checked) (X := fun w _ => laidMetH Tryz.prog laidL w) (fun _ _ _ hh h => h.of_heap hh) own started (by kernel_rfl) Tryz.func3
    (ChangeSpec.witness_shaped (enc := enc) (C := Tryz.checked) (os := os) (X := fun w _ => laidMetH Tryz.prog laidL w) false (World.doorLaid Tryz.prog 400 os) #[.string ⟨#[]⟩, .agg #[.string ⟨#[]⟩, .string ⟨#[]⟩, .string ⟨#[]⟩, .string ⟨#[]⟩], .slice none 0 0, .int .i64 0, .string ⟨#[]⟩] 8 rfl (World.shaped_of_RefB (by kernel_rfl) (by kernel_rfl)) (by kernel_rfl) (by kernel_rfl) (by kernel_rfl) (door_met os _)) ?_
  intro W base args ds gs before hval0 hW _ _ hL _
  have hval : ∀ (j : Nat) t v, Tryz.f3.params[j]? = some t → args[j]? = some v → Value.okWide Tryz.prog W .any base t v := hval0
  have hW' := hW
  obtain ⟨p, q, hA0, hV, rfl, hfz, hnd⟩ := hW
  have hA : DataW.TrodAll enc Tryz.prog W 0 (fun _ => true) true Tryz.f3.params.toList args.toList ds p := hA0
  rw [Tryz.params3] at hA hval
  obtain ⟨v0, vs0, d0, ds0, p0, q0, hargs, rfl, rfl, h0, r0⟩ := trodAll_cons hA
  obtain ⟨v1, vs1, d1, ds1, p1, q1, rfl, rfl, rfl, h1, r1⟩ := trodAll_cons r0
  obtain ⟨v2, vs2, d2, ds2, p2, q2, rfl, rfl, rfl, h2, r2⟩ := trodAll_cons r1
  obtain ⟨v3, vs3, d3, ds3, p3, q3, rfl, rfl, rfl, h3, r3⟩ := trodAll_cons r2
  obtain ⟨v4, vs4, d4, ds4, p4, q4, rfl, rfl, rfl, h4, r4⟩ := trodAll_cons r3
  obtain ⟨rfl, rfl, rfl⟩ := trodAll_nil r4
  obtain rfl : args = #[v0, v1, v2, v3, v4] := by cases args; simp_all
  obtain ⟨rfl, rfl⟩ := trodVars_none hV
  obtain ⟨a0, rfl, rfl, rfl, w0⟩ := Go.ChangeMaps.open_string Tryz.underlying9 (hval 0 9 v0 rfl rfl) h0
  obtain ⟨c1_0, c1_1, c1_2, c1_3, y1_0, y1_1, y1_2, y1_3, m1, rfl, rfl, rfl, hy1_0, hy1_1, hy1_2, hy1_3⟩ := Go.Joins.open_agg4 Tryz.underlying23 (by kernel_rfl) (by kernel_rfl) (hval 1 23 v1 rfl rfl) h1
  obtain ⟨a1_0, e1_0, rfl, w1_0⟩ := DataW.trod_string Tryz.underlying9 hy1_0
  simp only [List.cons.injEq, and_true] at e1_0
  subst e1_0
  obtain ⟨a1_1, e1_1, rfl, w1_1⟩ := DataW.trod_string Tryz.underlying9 hy1_1
  simp only [List.cons.injEq, and_true] at e1_1
  subst e1_1
  obtain ⟨a1_2, e1_2, rfl, w1_2⟩ := DataW.trod_string Tryz.underlying9 hy1_2
  simp only [List.cons.injEq, and_true] at e1_2
  subst e1_2
  obtain ⟨a1_3, e1_3, rfl, w1_3⟩ := DataW.trod_string Tryz.underlying9 hy1_3
  simp only [List.cons.injEq, and_true] at e1_3
  subst e1_3
  obtain ⟨a2, n2, c2, rfl⟩ := okWide_slice Tryz.underlying24 (hval 2 24 v2 rfl rfl)
  have h2k := h2
  obtain ⟨fuel2, hf2⟩ := h2
  have hlt2 : ∀ x ∈ p2, x.block < W.heap.size := fun x hx => by simpa using hW'.lt x (by simp [hx])
  obtain ⟨x2, lA2, lN2, lX2⟩ := atts_arg hf2 hlt2
  obtain ⟨a3, rfl, rfl, rfl, w3⟩ := open_int Tryz.underlying3 (hval 3 3 v3 rfl rfl) h3
  obtain ⟨a4, rfl, rfl, rfl, w4⟩ := Go.ChangeMaps.open_string Tryz.underlying9 (hval 4 9 v4 rfl rfl) h4
  clear hA0 hval0
  simp only [List.append_nil] at hW'
  refine (walk W a0 a1_0 a1_1 a1_2 a1_3 a2 n2 c2 x2 a3 a4 w0 w1_0 w1_1 w1_2 w1_3 lA2 lN2 lX2 w3 w4 (Header.tabs_of hL)).mono fun e W' ⟨he, hg⟩ => ?_
  subst he
  exact ⟨_, rfl, _, _, _, _, _, [], hW', (trodAll_cons_mk (shut_bool Tryz.underlying4 _) trodAll_mk0), (trodAll_cons_mk (Go.ChangeMaps.shut_string Tryz.underlying9 w0) (trodAll_cons_mk (Go.Joins.shut_agg4 (y0 := (.lit (.string a1_0.data.toList), [])) (y1 := (.lit (.string a1_1.data.toList), [])) (y2 := (.lit (.string a1_2.data.toList), [])) (y3 := (.lit (.string a1_3.data.toList), [])) Tryz.underlying23 (by kernel_rfl) (by kernel_rfl) (Go.Joins.field_of_Trod (Go.ChangeMaps.shut_string Tryz.underlying9 w1_0) rfl) (Go.Joins.field_of_Trod (Go.ChangeMaps.shut_string Tryz.underlying9 w1_1) rfl) (Go.Joins.field_of_Trod (Go.ChangeMaps.shut_string Tryz.underlying9 w1_2) rfl) (Go.Joins.field_of_Trod (Go.ChangeMaps.shut_string Tryz.underlying9 w1_3) rfl)) (trodAll_cons_mk (Below.trod laidOut (by kernel_rfl) (of_decide_eq_true (by kernel_rfl)) h2k hg hlt2) (trodAll_cons_mk (shut_int Tryz.underlying3 w3) (trodAll_cons_mk (Go.ChangeMaps.shut_string Tryz.underlying9 w4) trodAll_mk0))))), rfl, hg.frame _, fun h => by cases h⟩

set_option maxRecDepth 100000 in
theorem over : Rows.frameTellsRow.holds Tryz.pinned (OpenSpec.ofChange Rows.frameTellsSpec) :=
  OpenClaim.holds_of_wide 3 Tryz.f3 rfl rfl rfl rfl rfl rfl rfl ⟨rfl, rfl, rfl, rfl, rfl⟩ rfl rfl rfl rfl rfl (by kernel_rfl) Tryz.func3 (by kernel_rfl)
    (of_decide_eq_true (by kernel_rfl)) (by unfold Func.isWrapper; first | (rw [if_pos (by decide +kernel)]; kernel_rfl) | (rw [if_neg (by decide +kernel)]; exact ⟨rfl, rfl⟩))
    (fun os started H enc _ => lifted os started H enc)

set_option maxRecDepth 100000 in
theorem proved : Rows.FrameTellsCardSaid :=
  Claim7.holds_tied_plain_at .later [] [.data, .data] true Rows.frameTellsCard.stood.harness false
    over (fun _ h => by cases h) (by kernel_rfl) (fun _ h => by cases h) frameTells_row_tie rfl ⟨rfl, rfl⟩ (by kernel_rfl) rfl
    (fun f fn hf hfn => by
      obtain rfl : f = 3 := Option.some.inj ((show Tryz.prog.funcNamed "claviger/clavigerlaw34.FrameTells" = some 3 by kernel_rfl).symm.trans hf) |>.symm
      obtain rfl : fn = Tryz.f3 := (Option.some.inj (Tryz.func3.symm.trans hfn)).symm
      exact ⟨by kernel_rfl, fun j t ht => by
        rw [Tryz.params3] at ht
        have hm : t ∈ [9, 23, 24, 3, 9] := by simpa using Array.mem_of_getElem? ht
        have hall : ([9, 23, 24, 3, 9].all fun u => !Tryz.prog.wantsStandIn u) = true := by kernel_rfl
        exact (show Tryz.prog.wantsStandIn t = false by simpa using List.all_eq_true.1 hall t hm)⟩)
    (by kernel_rfl)

end Go.Proofs.YtapjmbjoklppnaaGreatDoor.frameTells
