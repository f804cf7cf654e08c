/- The law FrameBack: what is put together is cut as it was; what is cut, put together again, is what it was; no conditions. -/
import Derived.Test.YtoledeeefcbgnaaDoorRows
import Derived.WalkKit
import Derived.ProofKit
import Derived.OpenShut
import Derived.Lib.Hide
import Derived.Test.YtoledeeefcbgnaaDoorFr33
import Derived.Test.YtoledeeefcbgnaaDoorCards
import Derived.Test.YtoledeeefcbgnaaDoorTie
import Derived.LaidMore
import Derived.SevenTiedAt
import Derived.Stop.Joined
namespace Go.Proofs.YtoledeeefcbgnaaDoor.frameBack
open Go.ChangeShapes Go.WideShapes Go.ChangeAt Go.RowKit
open Att Templ Header Go.Proofs.YtoledeeefcbgnaaDoor.Frame

set_option maxRecDepth 100000 in
set_option maxHeartbeats 8000000 in
theorem core_00 (w : World) (l u m v e : ByteArray) (A : Option Addr) (n q : Nat) (L : List A2) (c g b : ByteArray) (hx : AttsS w (.slice A n q) L) (l1 : l.size ≤ 20) (l2 : c.size ≤ 200) (l3 : g.size = 16) (l4 : b.size ≤ 3000)
    (c0 : Mak 20 #[.agg #[.string u, .string m, .string v, .string e]] (.bool true)) (cF : RdA 21 L (fun x => #[x, .int .i64 60]) (.bool true)) (Q : ByteArray) (D : Int) (e1 : (D == 0) = false) (c1 : RdT l u m v e L (c.size : Int) (.tuple #[.string Q, .int .i64 D])) (E : Int) (e2 : (E != 0) = true) (_e3 : (E == 0) = false) (c4 : KMk KH 24 #[.string b] (.tuple #[.agg Z9, .int .i64 E])) (c5 : SameF ⟨#[]⟩ ⟨#[]⟩ ⟨#[]⟩ ⟨#[]⟩ ⟨#[]⟩ [] ⟨#[]⟩ ⟨#[]⟩ ⟨#[]⟩) (hT : KH w) :
    Calls Tryd.prog 5 #[.string l, .agg #[.string u, .string m, .string v, .string e], .slice A n q, .string c, .string g, .string b] w fun x w' => x = .returned (.bool true) ∧ Since w w' := by
  have t1 : decide ((20 : Int) < (l.size : Int)) = false := decide_eq_false (by omega)
  have t2 : decide ((200 : Int) < (c.size : Int)) = false := decide_eq_false (by omega)
  have t3 : ((g.size : Int) != 16) = false := bne_eq_false_iff_eq.2 (by omega)
  have t4 : decide ((3000 : Int) < (b.size : Int)) = false := decide_eq_false (by omega)
  have s0 : (l.toList == l.toList) = true := beq_self_eq_true _
  have s1 : (u.toList == u.toList) = true := beq_self_eq_true _
  have s2 : (m.toList == m.toList) = true := beq_self_eq_true _
  have s3 : (v.toList == v.toList) = true := beq_self_eq_true _
  have s4 : (e.toList == e.toList) = true := beq_self_eq_true _
  have s5 : (c.toList == c.toList) = true := beq_self_eq_true _
  have s6 : (g.toList == g.toList) = true := beq_self_eq_true _
  have s7 : (b.toList == b.toList) = true := beq_self_eq_true _
  have cE := attrs_same L
  clear l1 l2 l3 l4
  have hp := Lib.hid (hb_new w KH hT #[.string u, .string m, .string v, .string e] 24)
  have HS := Lib.hid hp.out.since
  have HX := Lib.hid (hx.since ((Since.refl w).alloc (.cells #[.string u, .string m, .string v, .string e] 24)))
  have c9 := awake_k
  obtain ⟨_, m0, m1, m2, m3⟩ := hb4 hp
  clear hx
  go_enter Tryd.func5, Tryd.ntmps5
  go_wp2_with fail
  clear m0 m1 m2 m3
  refine (c0.calls0) ?_
  intro w1 h1
  replace hp := Lib.hid (hp.out.step (by first | exact h1 | exact (Since.alloc (Since.refl _) _).step h1 | exact (Since.alloc (Since.alloc (Since.refl _) _) _).step h1 | exact (Since.drew (Since.refl _)).step h1 | exact (Since.alloc (Since.alloc (Since.alloc (Since.refl _) _) _) _).step h1))
  replace HX := Lib.hid (HX.out.since (by first | exact h1 | exact (Since.alloc (Since.refl _) _).step h1 | exact (Since.alloc (Since.alloc (Since.refl _) _) _).step h1 | exact (Since.drew (Since.refl _)).step h1 | exact (Since.alloc (Since.alloc (Since.alloc (Since.refl _) _) _) _).step h1))
  replace HS := Lib.hid (HS.out.step (by first | exact h1 | exact (Since.alloc (Since.refl _) _).step h1 | exact (Since.alloc (Since.alloc (Since.refl _) _) _).step h1 | exact (Since.drew (Since.refl _)).step h1 | exact (Since.alloc (Since.alloc (Since.alloc (Since.refl _) _) _) _).step h1))
  clear h1
  obtain ⟨_, m0, m1, m2, m3⟩ := hb4 hp
  go_wp2_with fail
  clear m0 m1 m2 m3
  refine (cF.calls0 HX.out) ?_
  intro w2 h2
  replace hp := Lib.hid (hp.out.step (by first | exact h2 | exact (Since.alloc (Since.refl _) _).step h2 | exact (Since.alloc (Since.alloc (Since.refl _) _) _).step h2 | exact (Since.drew (Since.refl _)).step h2 | exact (Since.alloc (Since.alloc (Since.alloc (Since.refl _) _) _) _).step h2))
  replace HX := Lib.hid (HX.out.since (by first | exact h2 | exact (Since.alloc (Since.refl _) _).step h2 | exact (Since.alloc (Since.alloc (Since.refl _) _) _).step h2 | exact (Since.drew (Since.refl _)).step h2 | exact (Since.alloc (Since.alloc (Since.alloc (Since.refl _) _) _) _).step h2))
  replace HS := Lib.hid (HS.out.step (by first | exact h2 | exact (Since.alloc (Since.refl _) _).step h2 | exact (Since.alloc (Since.alloc (Since.refl _) _) _).step h2 | exact (Since.drew (Since.refl _)).step h2 | exact (Since.alloc (Since.alloc (Since.alloc (Since.refl _) _) _) _).step h2))
  clear h2
  obtain ⟨_, m0, m1, m2, m3⟩ := hb4 hp
  go_wp2_with fail
  clear m0 m1 m2 m3
  refine (c1.calls0 hp.out.tabs HX.out) ?_
  intro w3 h3
  replace hp := Lib.hid (hp.out.step (by first | exact h3 | exact (Since.alloc (Since.refl _) _).step h3 | exact (Since.alloc (Since.alloc (Since.refl _) _) _).step h3 | exact (Since.drew (Since.refl _)).step h3 | exact (Since.alloc (Since.alloc (Since.alloc (Since.refl _) _) _) _).step h3))
  replace HX := Lib.hid (HX.out.since (by first | exact h3 | exact (Since.alloc (Since.refl _) _).step h3 | exact (Since.alloc (Since.alloc (Since.refl _) _) _).step h3 | exact (Since.drew (Since.refl _)).step h3 | exact (Since.alloc (Since.alloc (Since.alloc (Since.refl _) _) _) _).step h3))
  replace HS := Lib.hid (HS.out.step (by first | exact h3 | exact (Since.alloc (Since.refl _) _).step h3 | exact (Since.alloc (Since.alloc (Since.refl _) _) _).step h3 | exact (Since.drew (Since.refl _)).step h3 | exact (Since.alloc (Since.alloc (Since.alloc (Since.refl _) _) _) _).step h3))
  clear h3
  obtain ⟨_, m0, m1, m2, m3⟩ := hb4 hp
  go_wp2_with fail
  clear m0 m1 m2 m3
  unfold Z9 at c4
  refine (c4.calls0 hp.out.tabs) ?_
  intro w7 h7
  replace hp := Lib.hid (hp.out.step (by first | exact h7 | exact (Since.alloc (Since.refl _) _).step h7 | exact (Since.alloc (Since.alloc (Since.refl _) _) _).step h7 | exact (Since.drew (Since.refl _)).step h7 | exact (Since.alloc (Since.alloc (Since.alloc (Since.refl _) _) _) _).step h7))
  replace HS := Lib.hid (HS.out.step (by first | exact h7 | exact (Since.alloc (Since.refl _) _).step h7 | exact (Since.alloc (Since.alloc (Since.refl _) _) _).step h7 | exact (Since.drew (Since.refl _)).step h7 | exact (Since.alloc (Since.alloc (Since.alloc (Since.refl _) _) _) _).step h7))
  clear h7
  have hq := Lib.hid (hb_new w7 KH hp.out.tabs #[.string ⟨#[]⟩, .string ⟨#[]⟩, .string ⟨#[]⟩, .string ⟨#[]⟩, .string ⟨#[]⟩, .slice none 0 0, .string ⟨#[]⟩, .string ⟨#[]⟩, .string ⟨#[]⟩] 44)
  replace HS := Lib.hid (HS.out.step hq.out.since)
  obtain ⟨n0, n1, n2, n3, n4, n5, n6, n7, n8⟩ := hb9 hq.out
  go_wp2_with fail
  refine c5.calls0 (AttsS.nil _) (AttsS.nil _) ?_
  intro w8 h8
  clear n0 n1 n2 n3 n4 n5 n6 n7 n8
  replace hq := Lib.hid (hq.out.step h8)
  replace HS := Lib.hid (HS.out.step h8)
  clear h8
  go_wp2_with fail
  refine (c9.calls0 hq.out.tabs) ?_
  intro w9 h9
  replace HS := Lib.hid (HS.out.step (by first | exact h9 | exact (Since.alloc (Since.refl _) _).step h9 | exact (Since.alloc (Since.alloc (Since.refl _) _) _).step h9 | exact (Since.drew (Since.refl _)).step h9 | exact (Since.alloc (Since.alloc (Since.alloc (Since.refl _) _) _) _).step h9))
  clear h9
  go_wp2_with fail
  go_ret
  exact ⟨rfl, HS.out⟩
set_option maxRecDepth 100000 in
set_option maxHeartbeats 8000000 in
theorem core_10 (w : World) (l u m v e : ByteArray) (A : Option Addr) (n q : Nat) (L : List A2) (c g b : ByteArray) (hx : AttsS w (.slice A n q) L) (l1 : l.size ≤ 20) (l2 : c.size ≤ 200) (l3 : g.size = 16) (l4 : b.size ≤ 3000)
    (c0 : Mak 20 #[.agg #[.string u, .string m, .string v, .string e]] (.bool true)) (cF : RdA 21 L (fun x => #[x, .int .i64 60]) (.bool true)) (X : ByteArray) (_s8 : (X.toList == X.toList) = true) (c1 : RdT l u m v e L (c.size : Int) (.tuple #[.string X, .int .i64 0])) (B : ByteArray) (c2 : Mak 25 #[.string X, .string c, .string g] (.string B)) (c3 : CutOk B l u m v e L X c g) (E : Int) (e2 : (E != 0) = true) (_e3 : (E == 0) = false) (c4 : KMk KH 24 #[.string b] (.tuple #[.agg Z9, .int .i64 E])) (c5 : SameF ⟨#[]⟩ ⟨#[]⟩ ⟨#[]⟩ ⟨#[]⟩ ⟨#[]⟩ [] ⟨#[]⟩ ⟨#[]⟩ ⟨#[]⟩) (hT : KH w) :
    Calls Tryd.prog 5 #[.string l, .agg #[.string u, .string m, .string v, .string e], .slice A n q, .string c, .string g, .string b] w fun x w' => x = .returned (.bool true) ∧ Since w w' := by
  have t1 : decide ((20 : Int) < (l.size : Int)) = false := decide_eq_false (by omega)
  have t2 : decide ((200 : Int) < (c.size : Int)) = false := decide_eq_false (by omega)
  have t3 : ((g.size : Int) != 16) = false := bne_eq_false_iff_eq.2 (by omega)
  have t4 : decide ((3000 : Int) < (b.size : Int)) = false := decide_eq_false (by omega)
  have s0 : (l.toList == l.toList) = true := beq_self_eq_true _
  have s1 : (u.toList == u.toList) = true := beq_self_eq_true _
  have s2 : (m.toList == m.toList) = true := beq_self_eq_true _
  have s3 : (v.toList == v.toList) = true := beq_self_eq_true _
  have s4 : (e.toList == e.toList) = true := beq_self_eq_true _
  have s5 : (c.toList == c.toList) = true := beq_self_eq_true _
  have s6 : (g.toList == g.toList) = true := beq_self_eq_true _
  have s7 : (b.toList == b.toList) = true := beq_self_eq_true _
  have cE := attrs_same L
  clear l1 l2 l3 l4
  have hp := Lib.hid (hb_new w KH hT #[.string u, .string m, .string v, .string e] 24)
  have HS := Lib.hid hp.out.since
  have HX := Lib.hid (hx.since ((Since.refl w).alloc (.cells #[.string u, .string m, .string v, .string e] 24)))
  have c9 := awake_k
  obtain ⟨_, m0, m1, m2, m3⟩ := hb4 hp
  clear hx
  go_enter Tryd.func5, Tryd.ntmps5
  go_wp2_with fail
  clear m0 m1 m2 m3
  refine (c0.calls0) ?_
  intro w1 h1
  replace hp := Lib.hid (hp.out.step (by first | exact h1 | exact (Since.alloc (Since.refl _) _).step h1 | exact (Since.alloc (Since.alloc (Since.refl _) _) _).step h1 | exact (Since.drew (Since.refl _)).step h1 | exact (Since.alloc (Since.alloc (Since.alloc (Since.refl _) _) _) _).step h1))
  replace HX := Lib.hid (HX.out.since (by first | exact h1 | exact (Since.alloc (Since.refl _) _).step h1 | exact (Since.alloc (Since.alloc (Since.refl _) _) _).step h1 | exact (Since.drew (Since.refl _)).step h1 | exact (Since.alloc (Since.alloc (Since.alloc (Since.refl _) _) _) _).step h1))
  replace HS := Lib.hid (HS.out.step (by first | exact h1 | exact (Since.alloc (Since.refl _) _).step h1 | exact (Since.alloc (Since.alloc (Since.refl _) _) _).step h1 | exact (Since.drew (Since.refl _)).step h1 | exact (Since.alloc (Since.alloc (Since.alloc (Since.refl _) _) _) _).step h1))
  clear h1
  obtain ⟨_, m0, m1, m2, m3⟩ := hb4 hp
  go_wp2_with fail
  clear m0 m1 m2 m3
  refine (cF.calls0 HX.out) ?_
  intro w2 h2
  replace hp := Lib.hid (hp.out.step (by first | exact h2 | exact (Since.alloc (Since.refl _) _).step h2 | exact (Since.alloc (Since.alloc (Since.refl _) _) _).step h2 | exact (Since.drew (Since.refl _)).step h2 | exact (Since.alloc (Since.alloc (Since.alloc (Since.refl _) _) _) _).step h2))
  replace HX := Lib.hid (HX.out.since (by first | exact h2 | exact (Since.alloc (Since.refl _) _).step h2 | exact (Since.alloc (Since.alloc (Since.refl _) _) _).step h2 | exact (Since.drew (Since.refl _)).step h2 | exact (Since.alloc (Since.alloc (Since.alloc (Since.refl _) _) _) _).step h2))
  replace HS := Lib.hid (HS.out.step (by first | exact h2 | exact (Since.alloc (Since.refl _) _).step h2 | exact (Since.alloc (Since.alloc (Since.refl _) _) _).step h2 | exact (Since.drew (Since.refl _)).step h2 | exact (Since.alloc (Since.alloc (Since.alloc (Since.refl _) _) _) _).step h2))
  clear h2
  obtain ⟨_, m0, m1, m2, m3⟩ := hb4 hp
  go_wp2_with fail
  clear m0 m1 m2 m3
  refine (c1.calls0 hp.out.tabs HX.out) ?_
  intro w3 h3
  replace hp := Lib.hid (hp.out.step (by first | exact h3 | exact (Since.alloc (Since.refl _) _).step h3 | exact (Since.alloc (Since.alloc (Since.refl _) _) _).step h3 | exact (Since.drew (Since.refl _)).step h3 | exact (Since.alloc (Since.alloc (Since.alloc (Since.refl _) _) _) _).step h3))
  replace HX := Lib.hid (HX.out.since (by first | exact h3 | exact (Since.alloc (Since.refl _) _).step h3 | exact (Since.alloc (Since.alloc (Since.refl _) _) _).step h3 | exact (Since.drew (Since.refl _)).step h3 | exact (Since.alloc (Since.alloc (Since.alloc (Since.refl _) _) _) _).step h3))
  replace HS := Lib.hid (HS.out.step (by first | exact h3 | exact (Since.alloc (Since.refl _) _).step h3 | exact (Since.alloc (Since.alloc (Since.refl _) _) _).step h3 | exact (Since.drew (Since.refl _)).step h3 | exact (Since.alloc (Since.alloc (Since.alloc (Since.refl _) _) _) _).step h3))
  clear h3
  obtain ⟨_, m0, m1, m2, m3⟩ := hb4 hp
  go_wp2_with fail
  clear m0 m1 m2 m3
  refine (c2.calls0) ?_
  intro w4 h4
  replace hp := Lib.hid (hp.out.step (by first | exact h4 | exact (Since.alloc (Since.refl _) _).step h4 | exact (Since.alloc (Since.alloc (Since.refl _) _) _).step h4 | exact (Since.drew (Since.refl _)).step h4 | exact (Since.alloc (Since.alloc (Since.alloc (Since.refl _) _) _) _).step h4))
  replace HX := Lib.hid (HX.out.since (by first | exact h4 | exact (Since.alloc (Since.refl _) _).step h4 | exact (Since.alloc (Since.alloc (Since.refl _) _) _).step h4 | exact (Since.drew (Since.refl _)).step h4 | exact (Since.alloc (Since.alloc (Since.alloc (Since.refl _) _) _) _).step h4))
  replace HS := Lib.hid (HS.out.step (by first | exact h4 | exact (Since.alloc (Since.refl _) _).step h4 | exact (Since.alloc (Since.alloc (Since.refl _) _) _).step h4 | exact (Since.drew (Since.refl _)).step h4 | exact (Since.alloc (Since.alloc (Since.alloc (Since.refl _) _) _) _).step h4))
  clear h4
  obtain ⟨_, m0, m1, m2, m3⟩ := hb4 hp
  go_wp2_with fail
  clear m0 m1 m2 m3
  refine c3.calls0 hp.out.tabs ?_
  intro a w5 ha h5
  replace hp := Lib.hid (hp.out.step h5)
  replace HX := Lib.hid (HX.out.since h5)
  replace HS := Lib.hid (HS.out.step h5)
  obtain ⟨A1, d1, hav, _⟩ := ha.slice
  subst hav
  unfold C9
  have hq := Lib.hid (hb_new w5 KH hp.out.tabs #[.string l, .string u, .string m, .string v, .string e, .slice A1 L.length d1, .string X, .string c, .string g] 44)
  have HA := Lib.hid (ha.since hq.out.since)
  replace hp := Lib.hid (hp.out.step ((Below.refl _ w5).alloc (Nat.le_refl _) (.cells #[.string l, .string u, .string m, .string v, .string e, .slice A1 L.length d1, .string X, .string c, .string g] 44)))
  replace HX := Lib.hid (HX.out.since hq.out.since)
  replace HS := Lib.hid (HS.out.step hq.out.since)
  clear h5 ha
  obtain ⟨_, m0, m1, m2, m3⟩ := hb4 hp
  obtain ⟨n0, n1, n2, n3, n4, n5, n6, n7, n8⟩ := hb9 hq.out
  go_wp2_with fail
  refine cE.calls0 HA.out HX.out ?_
  intro w6 h6
  clear m0 m1 m2 m3 n0 n1 n2 n3 n4 n5 n6 n7 n8
  replace hp := Lib.hid (hp.out.step h6)
  replace hq := Lib.hid (hq.out.step h6)
  replace HS := Lib.hid (HS.out.step h6)
  clear h6 HA HX
  obtain ⟨_, m0, m1, m2, m3⟩ := hb4 hp
  obtain ⟨n0, n1, n2, n3, n4, n5, n6, n7, n8⟩ := hb9 hq.out
  go_wp2_with fail
  clear m0 m1 m2 m3 n0 n1 n2 n3 n4 n5 n6 n7 n8 hq
  unfold Z9 at c4
  refine (c4.calls0 hp.out.tabs) ?_
  intro w7 h7
  replace hp := Lib.hid (hp.out.step (by first | exact h7 | exact (Since.alloc (Since.refl _) _).step h7 | exact (Since.alloc (Since.alloc (Since.refl _) _) _).step h7 | exact (Since.drew (Since.refl _)).step h7 | exact (Since.alloc (Since.alloc (Since.alloc (Since.refl _) _) _) _).step h7))
  replace HS := Lib.hid (HS.out.step (by first | exact h7 | exact (Since.alloc (Since.refl _) _).step h7 | exact (Since.alloc (Since.alloc (Since.refl _) _) _).step h7 | exact (Since.drew (Since.refl _)).step h7 | exact (Since.alloc (Since.alloc (Since.alloc (Since.refl _) _) _) _).step h7))
  clear h7
  have hq := Lib.hid (hb_new w7 KH hp.out.tabs #[.string ⟨#[]⟩, .string ⟨#[]⟩, .string ⟨#[]⟩, .string ⟨#[]⟩, .string ⟨#[]⟩, .slice none 0 0, .string ⟨#[]⟩, .string ⟨#[]⟩, .string ⟨#[]⟩] 44)
  replace HS := Lib.hid (HS.out.step hq.out.since)
  obtain ⟨n0, n1, n2, n3, n4, n5, n6, n7, n8⟩ := hb9 hq.out
  go_wp2_with fail
  refine c5.calls0 (AttsS.nil _) (AttsS.nil _) ?_
  intro w8 h8
  clear n0 n1 n2 n3 n4 n5 n6 n7 n8
  replace hq := Lib.hid (hq.out.step h8)
  replace HS := Lib.hid (HS.out.step h8)
  clear h8
  go_wp2_with fail
  refine (c9.calls0 hq.out.tabs) ?_
  intro w9 h9
  replace HS := Lib.hid (HS.out.step (by first | exact h9 | exact (Since.alloc (Since.refl _) _).step h9 | exact (Since.alloc (Since.alloc (Since.refl _) _) _).step h9 | exact (Since.drew (Since.refl _)).step h9 | exact (Since.alloc (Since.alloc (Since.alloc (Since.refl _) _) _) _).step h9))
  clear h9
  go_wp2_with fail
  go_ret
  exact ⟨rfl, HS.out⟩
set_option maxRecDepth 100000 in
set_option maxHeartbeats 8000000 in
theorem core_01 (w : World) (l u m v e : ByteArray) (A : Option Addr) (n q : Nat) (L : List A2) (c g b : ByteArray) (hx : AttsS w (.slice A n q) L) (l1 : l.size ≤ 20) (l2 : c.size ≤ 200) (l3 : g.size = 16) (l4 : b.size ≤ 3000)
    (c0 : Mak 20 #[.agg #[.string u, .string m, .string v, .string e]] (.bool true)) (cF : RdA 21 L (fun x => #[x, .int .i64 60]) (.bool true)) (Q : ByteArray) (D : Int) (e1 : (D == 0) = false) (c1 : RdT l u m v e L (c.size : Int) (.tuple #[.string Q, .int .i64 D])) (l' u' m' v' e' : ByteArray) (L' : List A2) (P' C' G' : ByteArray) (c4 : CutOk b l' u' m' v' e' L' P' C' G') (t5 : decide ((4096 : Int) < (C'.size : Int)) = false) (_s9 : (P'.toList == P'.toList) = true) (c5 : RdT l' u' m' v' e' L' (C'.size : Int) (.tuple #[.string P', .int .i64 0])) (c6 : Mak 25 #[.string P', .string C', .string G'] (.string b)) (hT : KH w) :
    Calls Tryd.prog 5 #[.string l, .agg #[.string u, .string m, .string v, .string e], .slice A n q, .string c, .string g, .string b] w fun x w' => x = .returned (.bool true) ∧ Since w w' := by
  have t1 : decide ((20 : Int) < (l.size : Int)) = false := decide_eq_false (by omega)
  have t2 : decide ((200 : Int) < (c.size : Int)) = false := decide_eq_false (by omega)
  have t3 : ((g.size : Int) != 16) = false := bne_eq_false_iff_eq.2 (by omega)
  have t4 : decide ((3000 : Int) < (b.size : Int)) = false := decide_eq_false (by omega)
  have s0 : (l.toList == l.toList) = true := beq_self_eq_true _
  have s1 : (u.toList == u.toList) = true := beq_self_eq_true _
  have s2 : (m.toList == m.toList) = true := beq_self_eq_true _
  have s3 : (v.toList == v.toList) = true := beq_self_eq_true _
  have s4 : (e.toList == e.toList) = true := beq_self_eq_true _
  have s5 : (c.toList == c.toList) = true := beq_self_eq_true _
  have s6 : (g.toList == g.toList) = true := beq_self_eq_true _
  have s7 : (b.toList == b.toList) = true := beq_self_eq_true _
  have cE := attrs_same L
  clear l1 l2 l3 l4
  have hp := Lib.hid (hb_new w KH hT #[.string u, .string m, .string v, .string e] 24)
  have HS := Lib.hid hp.out.since
  have HX := Lib.hid (hx.since ((Since.refl w).alloc (.cells #[.string u, .string m, .string v, .string e] 24)))
  have c9 := awake_k
  obtain ⟨_, m0, m1, m2, m3⟩ := hb4 hp
  clear hx
  go_enter Tryd.func5, Tryd.ntmps5
  go_wp2_with fail
  clear m0 m1 m2 m3
  refine (c0.calls0) ?_
  intro w1 h1
  replace hp := Lib.hid (hp.out.step (by first | exact h1 | exact (Since.alloc (Since.refl _) _).step h1 | exact (Since.alloc (Since.alloc (Since.refl _) _) _).step h1 | exact (Since.drew (Since.refl _)).step h1 | exact (Since.alloc (Since.alloc (Since.alloc (Since.refl _) _) _) _).step h1))
  replace HX := Lib.hid (HX.out.since (by first | exact h1 | exact (Since.alloc (Since.refl _) _).step h1 | exact (Since.alloc (Since.alloc (Since.refl _) _) _).step h1 | exact (Since.drew (Since.refl _)).step h1 | exact (Since.alloc (Since.alloc (Since.alloc (Since.refl _) _) _) _).step h1))
  replace HS := Lib.hid (HS.out.step (by first | exact h1 | exact (Since.alloc (Since.refl _) _).step h1 | exact (Since.alloc (Since.alloc (Since.refl _) _) _).step h1 | exact (Since.drew (Since.refl _)).step h1 | exact (Since.alloc (Since.alloc (Since.alloc (Since.refl _) _) _) _).step h1))
  clear h1
  obtain ⟨_, m0, m1, m2, m3⟩ := hb4 hp
  go_wp2_with fail
  clear m0 m1 m2 m3
  refine (cF.calls0 HX.out) ?_
  intro w2 h2
  replace hp := Lib.hid (hp.out.step (by first | exact h2 | exact (Since.alloc (Since.refl _) _).step h2 | exact (Since.alloc (Since.alloc (Since.refl _) _) _).step h2 | exact (Since.drew (Since.refl _)).step h2 | exact (Since.alloc (Since.alloc (Since.alloc (Since.refl _) _) _) _).step h2))
  replace HX := Lib.hid (HX.out.since (by first | exact h2 | exact (Since.alloc (Since.refl _) _).step h2 | exact (Since.alloc (Since.alloc (Since.refl _) _) _).step h2 | exact (Since.drew (Since.refl _)).step h2 | exact (Since.alloc (Since.alloc (Since.alloc (Since.refl _) _) _) _).step h2))
  replace HS := Lib.hid (HS.out.step (by first | exact h2 | exact (Since.alloc (Since.refl _) _).step h2 | exact (Since.alloc (Since.alloc (Since.refl _) _) _).step h2 | exact (Since.drew (Since.refl _)).step h2 | exact (Since.alloc (Since.alloc (Since.alloc (Since.refl _) _) _) _).step h2))
  clear h2
  obtain ⟨_, m0, m1, m2, m3⟩ := hb4 hp
  go_wp2_with fail
  clear m0 m1 m2 m3
  refine (c1.calls0 hp.out.tabs HX.out) ?_
  intro w3 h3
  replace hp := Lib.hid (hp.out.step (by first | exact h3 | exact (Since.alloc (Since.refl _) _).step h3 | exact (Since.alloc (Since.alloc (Since.refl _) _) _).step h3 | exact (Since.drew (Since.refl _)).step h3 | exact (Since.alloc (Since.alloc (Since.alloc (Since.refl _) _) _) _).step h3))
  replace HX := Lib.hid (HX.out.since (by first | exact h3 | exact (Since.alloc (Since.refl _) _).step h3 | exact (Since.alloc (Since.alloc (Since.refl _) _) _).step h3 | exact (Since.drew (Since.refl _)).step h3 | exact (Since.alloc (Since.alloc (Since.alloc (Since.refl _) _) _) _).step h3))
  replace HS := Lib.hid (HS.out.step (by first | exact h3 | exact (Since.alloc (Since.refl _) _).step h3 | exact (Since.alloc (Since.alloc (Since.refl _) _) _).step h3 | exact (Since.drew (Since.refl _)).step h3 | exact (Since.alloc (Since.alloc (Since.alloc (Since.refl _) _) _) _).step h3))
  clear h3
  obtain ⟨_, m0, m1, m2, m3⟩ := hb4 hp
  go_wp2_with fail
  clear m0 m1 m2 m3
  refine c4.calls0 hp.out.tabs ?_
  intro a2 w7 ha h7
  replace hp := Lib.hid (hp.out.step h7)
  replace HS := Lib.hid (HS.out.step h7)
  obtain ⟨A2, d2, hav, _⟩ := ha.slice
  subst hav
  unfold C9
  have hq := Lib.hid (hb_new w7 KH hp.out.tabs #[.string l', .string u', .string m', .string v', .string e', .slice A2 L'.length d2, .string P', .string C', .string G'] 44)
  have HA := Lib.hid (ha.since hq.out.since)
  replace HS := Lib.hid (HS.out.step hq.out.since)
  clear h7 ha hp
  obtain ⟨n0, n1, n2, n3, n4, n5, n6, n7, n8⟩ := hb9 hq.out
  go_wp2_with fail
  clear n0 n1 n2 n3 n4 n5 n6 n7 n8
  refine (c5.calls0 hq.out.tabs HA.out) ?_
  intro w8 h8
  replace hq := Lib.hid (hq.out.step (by first | exact h8 | exact (Since.alloc (Since.refl _) _).step h8 | exact (Since.alloc (Since.alloc (Since.refl _) _) _).step h8 | exact (Since.drew (Since.refl _)).step h8 | exact (Since.alloc (Since.alloc (Since.alloc (Since.refl _) _) _) _).step h8))
  replace HS := Lib.hid (HS.out.step (by first | exact h8 | exact (Since.alloc (Since.refl _) _).step h8 | exact (Since.alloc (Since.alloc (Since.refl _) _) _).step h8 | exact (Since.drew (Since.refl _)).step h8 | exact (Since.alloc (Since.alloc (Since.alloc (Since.refl _) _) _) _).step h8))
  clear h8
  obtain ⟨n0, n1, n2, n3, n4, n5, n6, n7, n8⟩ := hb9 hq.out
  go_wp2_with fail
  clear n0 n1 n2 n3 n4 n5 n6 n7 n8
  refine (c6.calls0) ?_
  intro w9 h9
  replace hq := Lib.hid (hq.out.step (by first | exact h9 | exact (Since.alloc (Since.refl _) _).step h9 | exact (Since.alloc (Since.alloc (Since.refl _) _) _).step h9 | exact (Since.drew (Since.refl _)).step h9 | exact (Since.alloc (Since.alloc (Since.alloc (Since.refl _) _) _) _).step h9))
  replace HS := Lib.hid (HS.out.step (by first | exact h9 | exact (Since.alloc (Since.refl _) _).step h9 | exact (Since.alloc (Since.alloc (Since.refl _) _) _).step h9 | exact (Since.drew (Since.refl _)).step h9 | exact (Since.alloc (Since.alloc (Since.alloc (Since.refl _) _) _) _).step h9))
  clear h9
  obtain ⟨n0, n1, n2, n3, n4, n5, n6, n7, n8⟩ := hb9 hq.out
  go_wp2_with fail
  clear n0 n1 n2 n3 n4 n5 n6 n7 n8
  refine (c9.calls0 hq.out.tabs) ?_
  intro w10 h10
  replace HS := Lib.hid (HS.out.step (by first | exact h10 | exact (Since.alloc (Since.refl _) _).step h10 | exact (Since.alloc (Since.alloc (Since.refl _) _) _).step h10 | exact (Since.drew (Since.refl _)).step h10 | exact (Since.alloc (Since.alloc (Since.alloc (Since.refl _) _) _) _).step h10))
  clear h10
  go_wp2_with fail
  go_ret
  exact ⟨rfl, HS.out⟩
set_option maxRecDepth 100000 in
set_option maxHeartbeats 8000000 in
theorem core_11 (w : World) (l u m v e : ByteArray) (A : Option Addr) (n q : Nat) (L : List A2) (c g b : ByteArray) (hx : AttsS w (.slice A n q) L) (l1 : l.size ≤ 20) (l2 : c.size ≤ 200) (l3 : g.size = 16) (l4 : b.size ≤ 3000)
    (c0 : Mak 20 #[.agg #[.string u, .string m, .string v, .string e]] (.bool true)) (cF : RdA 21 L (fun x => #[x, .int .i64 60]) (.bool true)) (X : ByteArray) (_s8 : (X.toList == X.toList) = true) (c1 : RdT l u m v e L (c.size : Int) (.tuple #[.string X, .int .i64 0])) (B : ByteArray) (c2 : Mak 25 #[.string X, .string c, .string g] (.string B)) (c3 : CutOk B l u m v e L X c g) (l' u' m' v' e' : ByteArray) (L' : List A2) (P' C' G' : ByteArray) (c4 : CutOk b l' u' m' v' e' L' P' C' G') (t5 : decide ((4096 : Int) < (C'.size : Int)) = false) (_s9 : (P'.toList == P'.toList) = true) (c5 : RdT l' u' m' v' e' L' (C'.size : Int) (.tuple #[.string P', .int .i64 0])) (c6 : Mak 25 #[.string P', .string C', .string G'] (.string b)) (hT : KH w) :
    Calls Tryd.prog 5 #[.string l, .agg #[.string u, .string m, .string v, .string e], .slice A n q, .string c, .string g, .string b] w fun x w' => x = .returned (.bool true) ∧ Since w w' := by
  have t1 : decide ((20 : Int) < (l.size : Int)) = false := decide_eq_false (by omega)
  have t2 : decide ((200 : Int) < (c.size : Int)) = false := decide_eq_false (by omega)
  have t3 : ((g.size : Int) != 16) = false := bne_eq_false_iff_eq.2 (by omega)
  have t4 : decide ((3000 : Int) < (b.size : Int)) = false := decide_eq_false (by omega)
  have s0 : (l.toList == l.toList) = true := beq_self_eq_true _
  have s1 : (u.toList == u.toList) = true := beq_self_eq_true _
  have s2 : (m.toList == m.toList) = true := beq_self_eq_true _
  have s3 : (v.toList == v.toList) = true := beq_self_eq_true _
  have s4 : (e.toList == e.toList) = true := beq_self_eq_true _
  have s5 : (c.toList == c.toList) = true := beq_self_eq_true _
  have s6 : (g.toList == g.toList) = true := beq_self_eq_true _
  have s7 : (b.toList == b.toList) = true := beq_self_eq_true _
  have cE := attrs_same L
  clear l1 l2 l3 l4
  have hp := Lib.hid (hb_new w KH hT #[.string u, .string m, .string v, .string e] 24)
  have HS := Lib.hid hp.out.since
  have HX := Lib.hid (hx.since ((Since.refl w).alloc (.cells #[.string u, .string m, .string v, .string e] 24)))
  have c9 := awake_k
  obtain ⟨_, m0, m1, m2, m3⟩ := hb4 hp
  clear hx
  go_enter Tryd.func5, Tryd.ntmps5
  go_wp2_with fail
  clear m0 m1 m2 m3
  refine (c0.calls0) ?_
  intro w1 h1
  replace hp := Lib.hid (hp.out.step (by first | exact h1 | exact (Since.alloc (Since.refl _) _).step h1 | exact (Since.alloc (Since.alloc (Since.refl _) _) _).step h1 | exact (Since.drew (Since.refl _)).step h1 | exact (Since.alloc (Since.alloc (Since.alloc (Since.refl _) _) _) _).step h1))
  replace HX := Lib.hid (HX.out.since (by first | exact h1 | exact (Since.alloc (Since.refl _) _).step h1 | exact (Since.alloc (Since.alloc (Since.refl _) _) _).step h1 | exact (Since.drew (Since.refl _)).step h1 | exact (Since.alloc (Since.alloc (Since.alloc (Since.refl _) _) _) _).step h1))
  replace HS := Lib.hid (HS.out.step (by first | exact h1 | exact (Since.alloc (Since.refl _) _).step h1 | exact (Since.alloc (Since.alloc (Since.refl _) _) _).step h1 | exact (Since.drew (Since.refl _)).step h1 | exact (Since.alloc (Since.alloc (Since.alloc (Since.refl _) _) _) _).step h1))
  clear h1
  obtain ⟨_, m0, m1, m2, m3⟩ := hb4 hp
  go_wp2_with fail
  clear m0 m1 m2 m3
  refine (cF.calls0 HX.out) ?_
  intro w2 h2
  replace hp := Lib.hid (hp.out.step (by first | exact h2 | exact (Since.alloc (Since.refl _) _).step h2 | exact (Since.alloc (Since.alloc (Since.refl _) _) _).step h2 | exact (Since.drew (Since.refl _)).step h2 | exact (Since.alloc (Since.alloc (Since.alloc (Since.refl _) _) _) _).step h2))
  replace HX := Lib.hid (HX.out.since (by first | exact h2 | exact (Since.alloc (Since.refl _) _).step h2 | exact (Since.alloc (Since.alloc (Since.refl _) _) _).step h2 | exact (Since.drew (Since.refl _)).step h2 | exact (Since.alloc (Since.alloc (Since.alloc (Since.refl _) _) _) _).step h2))
  replace HS := Lib.hid (HS.out.step (by first | exact h2 | exact (Since.alloc (Since.refl _) _).step h2 | exact (Since.alloc (Since.alloc (Since.refl _) _) _).step h2 | exact (Since.drew (Since.refl _)).step h2 | exact (Since.alloc (Since.alloc (Since.alloc (Since.refl _) _) _) _).step h2))
  clear h2
  obtain ⟨_, m0, m1, m2, m3⟩ := hb4 hp
  go_wp2_with fail
  clear m0 m1 m2 m3
  refine (c1.calls0 hp.out.tabs HX.out) ?_
  intro w3 h3
  replace hp := Lib.hid (hp.out.step (by first | exact h3 | exact (Since.alloc (Since.refl _) _).step h3 | exact (Since.alloc (Since.alloc (Since.refl _) _) _).step h3 | exact (Since.drew (Since.refl _)).step h3 | exact (Since.alloc (Since.alloc (Since.alloc (Since.refl _) _) _) _).step h3))
  replace HX := Lib.hid (HX.out.since (by first | exact h3 | exact (Since.alloc (Since.refl _) _).step h3 | exact (Since.alloc (Since.alloc (Since.refl _) _) _).step h3 | exact (Since.drew (Since.refl _)).step h3 | exact (Since.alloc (Since.alloc (Since.alloc (Since.refl _) _) _) _).step h3))
  replace HS := Lib.hid (HS.out.step (by first | exact h3 | exact (Since.alloc (Since.refl _) _).step h3 | exact (Since.alloc (Since.alloc (Since.refl _) _) _).step h3 | exact (Since.drew (Since.refl _)).step h3 | exact (Since.alloc (Since.alloc (Since.alloc (Since.refl _) _) _) _).step h3))
  clear h3
  obtain ⟨_, m0, m1, m2, m3⟩ := hb4 hp
  go_wp2_with fail
  clear m0 m1 m2 m3
  refine (c2.calls0) ?_
  intro w4 h4
  replace hp := Lib.hid (hp.out.step (by first | exact h4 | exact (Since.alloc (Since.refl _) _).step h4 | exact (Since.alloc (Since.alloc (Since.refl _) _) _).step h4 | exact (Since.drew (Since.refl _)).step h4 | exact (Since.alloc (Since.alloc (Since.alloc (Since.refl _) _) _) _).step h4))
  replace HX := Lib.hid (HX.out.since (by first | exact h4 | exact (Since.alloc (Since.refl _) _).step h4 | exact (Since.alloc (Since.alloc (Since.refl _) _) _).step h4 | exact (Since.drew (Since.refl _)).step h4 | exact (Since.alloc (Since.alloc (Since.alloc (Since.refl _) _) _) _).step h4))
  replace HS := Lib.hid (HS.out.step (by first | exact h4 | exact (Since.alloc (Since.refl _) _).step h4 | exact (Since.alloc (Since.alloc (Since.refl _) _) _).step h4 | exact (Since.drew (Since.refl _)).step h4 | exact (Since.alloc (Since.alloc (Since.alloc (Since.refl _) _) _) _).step h4))
  clear h4
  obtain ⟨_, m0, m1, m2, m3⟩ := hb4 hp
  go_wp2_with fail
  clear m0 m1 m2 m3
  refine c3.calls0 hp.out.tabs ?_
  intro a w5 ha h5
  replace hp := Lib.hid (hp.out.step h5)
  replace HX := Lib.hid (HX.out.since h5)
  replace HS := Lib.hid (HS.out.step h5)
  obtain ⟨A1, d1, hav, _⟩ := ha.slice
  subst hav
  unfold C9
  have hq := Lib.hid (hb_new w5 KH hp.out.tabs #[.string l, .string u, .string m, .string v, .string e, .slice A1 L.length d1, .string X, .string c, .string g] 44)
  have HA := Lib.hid (ha.since hq.out.since)
  replace hp := Lib.hid (hp.out.step ((Below.refl _ w5).alloc (Nat.le_refl _) (.cells #[.string l, .string u, .string m, .string v, .string e, .slice A1 L.length d1, .string X, .string c, .string g] 44)))
  replace HX := Lib.hid (HX.out.since hq.out.since)
  replace HS := Lib.hid (HS.out.step hq.out.since)
  clear h5 ha
  obtain ⟨_, m0, m1, m2, m3⟩ := hb4 hp
  obtain ⟨n0, n1, n2, n3, n4, n5, n6, n7, n8⟩ := hb9 hq.out
  go_wp2_with fail
  refine cE.calls0 HA.out HX.out ?_
  intro w6 h6
  clear m0 m1 m2 m3 n0 n1 n2 n3 n4 n5 n6 n7 n8
  replace hp := Lib.hid (hp.out.step h6)
  replace hq := Lib.hid (hq.out.step h6)
  replace HS := Lib.hid (HS.out.step h6)
  clear h6 HA HX
  obtain ⟨_, m0, m1, m2, m3⟩ := hb4 hp
  obtain ⟨n0, n1, n2, n3, n4, n5, n6, n7, n8⟩ := hb9 hq.out
  go_wp2_with fail
  clear m0 m1 m2 m3 n0 n1 n2 n3 n4 n5 n6 n7 n8 hq
  refine c4.calls0 hp.out.tabs ?_
  intro a2 w7 ha h7
  replace hp := Lib.hid (hp.out.step h7)
  replace HS := Lib.hid (HS.out.step h7)
  obtain ⟨A2, d2, hav, _⟩ := ha.slice
  subst hav
  unfold C9
  have hq := Lib.hid (hb_new w7 KH hp.out.tabs #[.string l', .string u', .string m', .string v', .string e', .slice A2 L'.length d2, .string P', .string C', .string G'] 44)
  have HA := Lib.hid (ha.since hq.out.since)
  replace HS := Lib.hid (HS.out.step hq.out.since)
  clear h7 ha hp
  obtain ⟨n0, n1, n2, n3, n4, n5, n6, n7, n8⟩ := hb9 hq.out
  go_wp2_with fail
  clear n0 n1 n2 n3 n4 n5 n6 n7 n8
  refine (c5.calls0 hq.out.tabs HA.out) ?_
  intro w8 h8
  replace hq := Lib.hid (hq.out.step (by first | exact h8 | exact (Since.alloc (Since.refl _) _).step h8 | exact (Since.alloc (Since.alloc (Since.refl _) _) _).step h8 | exact (Since.drew (Since.refl _)).step h8 | exact (Since.alloc (Since.alloc (Since.alloc (Since.refl _) _) _) _).step h8))
  replace HS := Lib.hid (HS.out.step (by first | exact h8 | exact (Since.alloc (Since.refl _) _).step h8 | exact (Since.alloc (Since.alloc (Since.refl _) _) _).step h8 | exact (Since.drew (Since.refl _)).step h8 | exact (Since.alloc (Since.alloc (Since.alloc (Since.refl _) _) _) _).step h8))
  clear h8
  obtain ⟨n0, n1, n2, n3, n4, n5, n6, n7, n8⟩ := hb9 hq.out
  go_wp2_with fail
  clear n0 n1 n2 n3 n4 n5 n6 n7 n8
  refine (c6.calls0) ?_
  intro w9 h9
  replace hq := Lib.hid (hq.out.step (by first | exact h9 | exact (Since.alloc (Since.refl _) _).step h9 | exact (Since.alloc (Since.alloc (Since.refl _) _) _).step h9 | exact (Since.drew (Since.refl _)).step h9 | exact (Since.alloc (Since.alloc (Since.alloc (Since.refl _) _) _) _).step h9))
  replace HS := Lib.hid (HS.out.step (by first | exact h9 | exact (Since.alloc (Since.refl _) _).step h9 | exact (Since.alloc (Since.alloc (Since.refl _) _) _).step h9 | exact (Since.drew (Since.refl _)).step h9 | exact (Since.alloc (Since.alloc (Since.alloc (Since.refl _) _) _) _).step h9))
  clear h9
  obtain ⟨n0, n1, n2, n3, n4, n5, n6, n7, n8⟩ := hb9 hq.out
  go_wp2_with fail
  clear n0 n1 n2 n3 n4 n5 n6 n7 n8
  refine (c9.calls0 hq.out.tabs) ?_
  intro w10 h10
  replace HS := Lib.hid (HS.out.step (by first | exact h10 | exact (Since.alloc (Since.refl _) _).step h10 | exact (Since.alloc (Since.alloc (Since.refl _) _) _).step h10 | exact (Since.drew (Since.refl _)).step h10 | exact (Since.alloc (Since.alloc (Since.alloc (Since.refl _) _) _) _).step h10))
  clear h10
  go_wp2_with fail
  go_ret
  exact ⟨rfl, HS.out⟩
set_option maxRecDepth 100000 in
set_option maxHeartbeats 4000000 in
theorem big_1 (w : World) (l u m v e : ByteArray) (A : Option Addr) (n q : Nat) (L : List A2) (c g b : ByteArray) (hx : AttsS w (.slice A n q) L) (l1 : 20 < l.size) (hT : KH w) :
    Calls Tryd.prog 5 #[.string l, .agg #[.string u, .string m, .string v, .string e], .slice A n q, .string c, .string g, .string b] w fun x w' => x = .returned (.bool true) ∧ Since w w' := by
  have t1 : decide ((20 : Int) < (l.size : Int)) = true := decide_eq_true (by omega)
  clear l1
  have hp := Lib.hid (hb_new w KH hT #[.string u, .string m, .string v, .string e] 24)
  have HS := Lib.hid hp.out.since
  have HX := Lib.hid (hx.since ((Since.refl w).alloc (.cells #[.string u, .string m, .string v, .string e] 24)))
  have c9 := awake_k
  obtain ⟨_, m0, m1, m2, m3⟩ := hb4 hp
  clear hx
  go_enter Tryd.func5, Tryd.ntmps5
  go_wp2_with fail
  clear m0 m1 m2 m3
  skip
  refine (c9.calls0 hp.out.tabs) ?_
  intro w3 h3
  replace HS := Lib.hid (HS.out.step (by first | exact h3 | exact (Since.alloc (Since.refl _) _).step h3 | exact (Since.alloc (Since.alloc (Since.refl _) _) _).step h3 | exact (Since.drew (Since.refl _)).step h3 | exact (Since.alloc (Since.alloc (Since.alloc (Since.refl _) _) _) _).step h3))
  clear h3
  go_wp2_with fail
  go_ret
  exact ⟨rfl, HS.out⟩
set_option maxRecDepth 100000 in
set_option maxHeartbeats 4000000 in
theorem big_2 (w : World) (l u m v e : ByteArray) (A : Option Addr) (n q : Nat) (L : List A2) (c g b : ByteArray) (hx : AttsS w (.slice A n q) L) (l1 : l.size ≤ 20) (c0 : Mak 20 #[.agg #[.string u, .string m, .string v, .string e]] (.bool false)) (hT : KH w) :
    Calls Tryd.prog 5 #[.string l, .agg #[.string u, .string m, .string v, .string e], .slice A n q, .string c, .string g, .string b] w fun x w' => x = .returned (.bool true) ∧ Since w w' := by
  have t1 : decide ((20 : Int) < (l.size : Int)) = false := decide_eq_false (by omega)
  clear l1
  have hp := Lib.hid (hb_new w KH hT #[.string u, .string m, .string v, .string e] 24)
  have HS := Lib.hid hp.out.since
  have HX := Lib.hid (hx.since ((Since.refl w).alloc (.cells #[.string u, .string m, .string v, .string e] 24)))
  have c9 := awake_k
  obtain ⟨_, m0, m1, m2, m3⟩ := hb4 hp
  clear hx
  go_enter Tryd.func5, Tryd.ntmps5
  go_wp2_with fail
  clear m0 m1 m2 m3
  refine (c0.calls0) ?_
  intro w1 h1
  replace hp := Lib.hid (hp.out.step (by first | exact h1 | exact (Since.alloc (Since.refl _) _).step h1 | exact (Since.alloc (Since.alloc (Since.refl _) _) _).step h1 | exact (Since.drew (Since.refl _)).step h1 | exact (Since.alloc (Since.alloc (Since.alloc (Since.refl _) _) _) _).step h1))
  replace HX := Lib.hid (HX.out.since (by first | exact h1 | exact (Since.alloc (Since.refl _) _).step h1 | exact (Since.alloc (Since.alloc (Since.refl _) _) _).step h1 | exact (Since.drew (Since.refl _)).step h1 | exact (Since.alloc (Since.alloc (Since.alloc (Since.refl _) _) _) _).step h1))
  replace HS := Lib.hid (HS.out.step (by first | exact h1 | exact (Since.alloc (Since.refl _) _).step h1 | exact (Since.alloc (Since.alloc (Since.refl _) _) _).step h1 | exact (Since.drew (Since.refl _)).step h1 | exact (Since.alloc (Since.alloc (Since.alloc (Since.refl _) _) _) _).step h1))
  clear h1
  obtain ⟨_, m0, m1, m2, m3⟩ := hb4 hp
  go_wp2_with fail
  clear m0 m1 m2 m3
  refine (c9.calls0 hp.out.tabs) ?_
  intro w3 h3
  replace HS := Lib.hid (HS.out.step (by first | exact h3 | exact (Since.alloc (Since.refl _) _).step h3 | exact (Since.alloc (Since.alloc (Since.refl _) _) _).step h3 | exact (Since.drew (Since.refl _)).step h3 | exact (Since.alloc (Since.alloc (Since.alloc (Since.refl _) _) _) _).step h3))
  clear h3
  go_wp2_with fail
  go_ret
  exact ⟨rfl, HS.out⟩
set_option maxRecDepth 100000 in
set_option maxHeartbeats 4000000 in
theorem big_3 (w : World) (l u m v e : ByteArray) (A : Option Addr) (n q : Nat) (L : List A2) (c g b : ByteArray) (hx : AttsS w (.slice A n q) L) (l1 : l.size ≤ 20) (c0 : Mak 20 #[.agg #[.string u, .string m, .string v, .string e]] (.bool true)) (cF : RdA 21 L (fun x => #[x, .int .i64 60]) (.bool false)) (hT : KH w) :
    Calls Tryd.prog 5 #[.string l, .agg #[.string u, .string m, .string v, .string e], .slice A n q, .string c, .string g, .string b] w fun x w' => x = .returned (.bool true) ∧ Since w w' := by
  have t1 : decide ((20 : Int) < (l.size : Int)) = false := decide_eq_false (by omega)
  clear l1
  have hp := Lib.hid (hb_new w KH hT #[.string u, .string m, .string v, .string e] 24)
  have HS := Lib.hid hp.out.since
  have HX := Lib.hid (hx.since ((Since.refl w).alloc (.cells #[.string u, .string m, .string v, .string e] 24)))
  have c9 := awake_k
  obtain ⟨_, m0, m1, m2, m3⟩ := hb4 hp
  clear hx
  go_enter Tryd.func5, Tryd.ntmps5
  go_wp2_with fail
  clear m0 m1 m2 m3
  refine (c0.calls0) ?_
  intro w1 h1
  replace hp := Lib.hid (hp.out.step (by first | exact h1 | exact (Since.alloc (Since.refl _) _).step h1 | exact (Since.alloc (Since.alloc (Since.refl _) _) _).step h1 | exact (Since.drew (Since.refl _)).step h1 | exact (Since.alloc (Since.alloc (Since.alloc (Since.refl _) _) _) _).step h1))
  replace HX := Lib.hid (HX.out.since (by first | exact h1 | exact (Since.alloc (Since.refl _) _).step h1 | exact (Since.alloc (Since.alloc (Since.refl _) _) _).step h1 | exact (Since.drew (Since.refl _)).step h1 | exact (Since.alloc (Since.alloc (Since.alloc (Since.refl _) _) _) _).step h1))
  replace HS := Lib.hid (HS.out.step (by first | exact h1 | exact (Since.alloc (Since.refl _) _).step h1 | exact (Since.alloc (Since.alloc (Since.refl _) _) _).step h1 | exact (Since.drew (Since.refl _)).step h1 | exact (Since.alloc (Since.alloc (Since.alloc (Since.refl _) _) _) _).step h1))
  clear h1
  obtain ⟨_, m0, m1, m2, m3⟩ := hb4 hp
  go_wp2_with fail
  clear m0 m1 m2 m3
  refine (cF.calls0 HX.out) ?_
  intro w2 h2
  replace hp := Lib.hid (hp.out.step (by first | exact h2 | exact (Since.alloc (Since.refl _) _).step h2 | exact (Since.alloc (Since.alloc (Since.refl _) _) _).step h2 | exact (Since.drew (Since.refl _)).step h2 | exact (Since.alloc (Since.alloc (Since.alloc (Since.refl _) _) _) _).step h2))
  replace HX := Lib.hid (HX.out.since (by first | exact h2 | exact (Since.alloc (Since.refl _) _).step h2 | exact (Since.alloc (Since.alloc (Since.refl _) _) _).step h2 | exact (Since.drew (Since.refl _)).step h2 | exact (Since.alloc (Since.alloc (Since.alloc (Since.refl _) _) _) _).step h2))
  replace HS := Lib.hid (HS.out.step (by first | exact h2 | exact (Since.alloc (Since.refl _) _).step h2 | exact (Since.alloc (Since.alloc (Since.refl _) _) _).step h2 | exact (Since.drew (Since.refl _)).step h2 | exact (Since.alloc (Since.alloc (Since.alloc (Since.refl _) _) _) _).step h2))
  clear h2
  obtain ⟨_, m0, m1, m2, m3⟩ := hb4 hp
  go_wp2_with fail
  clear m0 m1 m2 m3
  refine (c9.calls0 hp.out.tabs) ?_
  intro w3 h3
  replace HS := Lib.hid (HS.out.step (by first | exact h3 | exact (Since.alloc (Since.refl _) _).step h3 | exact (Since.alloc (Since.alloc (Since.refl _) _) _).step h3 | exact (Since.drew (Since.refl _)).step h3 | exact (Since.alloc (Since.alloc (Since.alloc (Since.refl _) _) _) _).step h3))
  clear h3
  go_wp2_with fail
  go_ret
  exact ⟨rfl, HS.out⟩
set_option maxRecDepth 100000 in
set_option maxHeartbeats 4000000 in
theorem big_4 (w : World) (l u m v e : ByteArray) (A : Option Addr) (n q : Nat) (L : List A2) (c g b : ByteArray) (hx : AttsS w (.slice A n q) L) (l1 : l.size ≤ 20) (l2 : 200 < c.size) (c0 : Mak 20 #[.agg #[.string u, .string m, .string v, .string e]] (.bool true)) (cF : RdA 21 L (fun x => #[x, .int .i64 60]) (.bool true)) (hT : KH w) :
    Calls Tryd.prog 5 #[.string l, .agg #[.string u, .string m, .string v, .string e], .slice A n q, .string c, .string g, .string b] w fun x w' => x = .returned (.bool true) ∧ Since w w' := by
  have t1 : decide ((20 : Int) < (l.size : Int)) = false := decide_eq_false (by omega)
  have t2 : decide ((200 : Int) < (c.size : Int)) = true := decide_eq_true (by omega)
  clear l1 l2
  have hp := Lib.hid (hb_new w KH hT #[.string u, .string m, .string v, .string e] 24)
  have HS := Lib.hid hp.out.since
  have HX := Lib.hid (hx.since ((Since.refl w).alloc (.cells #[.string u, .string m, .string v, .string e] 24)))
  have c9 := awake_k
  obtain ⟨_, m0, m1, m2, m3⟩ := hb4 hp
  clear hx
  go_enter Tryd.func5, Tryd.ntmps5
  go_wp2_with fail
  clear m0 m1 m2 m3
  refine (c0.calls0) ?_
  intro w1 h1
  replace hp := Lib.hid (hp.out.step (by first | exact h1 | exact (Since.alloc (Since.refl _) _).step h1 | exact (Since.alloc (Since.alloc (Since.refl _) _) _).step h1 | exact (Since.drew (Since.refl _)).step h1 | exact (Since.alloc (Since.alloc (Since.alloc (Since.refl _) _) _) _).step h1))
  replace HX := Lib.hid (HX.out.since (by first | exact h1 | exact (Since.alloc (Since.refl _) _).step h1 | exact (Since.alloc (Since.alloc (Since.refl _) _) _).step h1 | exact (Since.drew (Since.refl _)).step h1 | exact (Since.alloc (Since.alloc (Since.alloc (Since.refl _) _) _) _).step h1))
  replace HS := Lib.hid (HS.out.step (by first | exact h1 | exact (Since.alloc (Since.refl _) _).step h1 | exact (Since.alloc (Since.alloc (Since.refl _) _) _).step h1 | exact (Since.drew (Since.refl _)).step h1 | exact (Since.alloc (Since.alloc (Since.alloc (Since.refl _) _) _) _).step h1))
  clear h1
  obtain ⟨_, m0, m1, m2, m3⟩ := hb4 hp
  go_wp2_with fail
  clear m0 m1 m2 m3
  refine (cF.calls0 HX.out) ?_
  intro w2 h2
  replace hp := Lib.hid (hp.out.step (by first | exact h2 | exact (Since.alloc (Since.refl _) _).step h2 | exact (Since.alloc (Since.alloc (Since.refl _) _) _).step h2 | exact (Since.drew (Since.refl _)).step h2 | exact (Since.alloc (Since.alloc (Since.alloc (Since.refl _) _) _) _).step h2))
  replace HX := Lib.hid (HX.out.since (by first | exact h2 | exact (Since.alloc (Since.refl _) _).step h2 | exact (Since.alloc (Since.alloc (Since.refl _) _) _).step h2 | exact (Since.drew (Since.refl _)).step h2 | exact (Since.alloc (Since.alloc (Since.alloc (Since.refl _) _) _) _).step h2))
  replace HS := Lib.hid (HS.out.step (by first | exact h2 | exact (Since.alloc (Since.refl _) _).step h2 | exact (Since.alloc (Since.alloc (Since.refl _) _) _).step h2 | exact (Since.drew (Since.refl _)).step h2 | exact (Since.alloc (Since.alloc (Since.alloc (Since.refl _) _) _) _).step h2))
  clear h2
  obtain ⟨_, m0, m1, m2, m3⟩ := hb4 hp
  go_wp2_with fail
  clear m0 m1 m2 m3
  refine (c9.calls0 hp.out.tabs) ?_
  intro w3 h3
  replace HS := Lib.hid (HS.out.step (by first | exact h3 | exact (Since.alloc (Since.refl _) _).step h3 | exact (Since.alloc (Since.alloc (Since.refl _) _) _).step h3 | exact (Since.drew (Since.refl _)).step h3 | exact (Since.alloc (Since.alloc (Since.alloc (Since.refl _) _) _) _).step h3))
  clear h3
  go_wp2_with fail
  go_ret
  exact ⟨rfl, HS.out⟩
set_option maxRecDepth 100000 in
set_option maxHeartbeats 4000000 in
theorem big_5 (w : World) (l u m v e : ByteArray) (A : Option Addr) (n q : Nat) (L : List A2) (c g b : ByteArray) (hx : AttsS w (.slice A n q) L) (l1 : l.size ≤ 20) (l2 : c.size ≤ 200) (l3 : g.size ≠ 16) (c0 : Mak 20 #[.agg #[.string u, .string m, .string v, .string e]] (.bool true)) (cF : RdA 21 L (fun x => #[x, .int .i64 60]) (.bool true)) (hT : KH w) :
    Calls Tryd.prog 5 #[.string l, .agg #[.string u, .string m, .string v, .string e], .slice A n q, .string c, .string g, .string b] w fun x w' => x = .returned (.bool true) ∧ Since w w' := by
  have t1 : decide ((20 : Int) < (l.size : Int)) = false := decide_eq_false (by omega)
  have t2 : decide ((200 : Int) < (c.size : Int)) = false := decide_eq_false (by omega)
  have t3 : ((g.size : Int) != 16) = true := bne_iff_ne.2 (by omega)
  clear l1 l2 l3
  have hp := Lib.hid (hb_new w KH hT #[.string u, .string m, .string v, .string e] 24)
  have HS := Lib.hid hp.out.since
  have HX := Lib.hid (hx.since ((Since.refl w).alloc (.cells #[.string u, .string m, .string v, .string e] 24)))
  have c9 := awake_k
  obtain ⟨_, m0, m1, m2, m3⟩ := hb4 hp
  clear hx
  go_enter Tryd.func5, Tryd.ntmps5
  go_wp2_with fail
  clear m0 m1 m2 m3
  refine (c0.calls0) ?_
  intro w1 h1
  replace hp := Lib.hid (hp.out.step (by first | exact h1 | exact (Since.alloc (Since.refl _) _).step h1 | exact (Since.alloc (Since.alloc (Since.refl _) _) _).step h1 | exact (Since.drew (Since.refl _)).step h1 | exact (Since.alloc (Since.alloc (Since.alloc (Since.refl _) _) _) _).step h1))
  replace HX := Lib.hid (HX.out.since (by first | exact h1 | exact (Since.alloc (Since.refl _) _).step h1 | exact (Since.alloc (Since.alloc (Since.refl _) _) _).step h1 | exact (Since.drew (Since.refl _)).step h1 | exact (Since.alloc (Since.alloc (Since.alloc (Since.refl _) _) _) _).step h1))
  replace HS := Lib.hid (HS.out.step (by first | exact h1 | exact (Since.alloc (Since.refl _) _).step h1 | exact (Since.alloc (Since.alloc (Since.refl _) _) _).step h1 | exact (Since.drew (Since.refl _)).step h1 | exact (Since.alloc (Since.alloc (Since.alloc (Since.refl _) _) _) _).step h1))
  clear h1
  obtain ⟨_, m0, m1, m2, m3⟩ := hb4 hp
  go_wp2_with fail
  clear m0 m1 m2 m3
  refine (cF.calls0 HX.out) ?_
  intro w2 h2
  replace hp := Lib.hid (hp.out.step (by first | exact h2 | exact (Since.alloc (Since.refl _) _).step h2 | exact (Since.alloc (Since.alloc (Since.refl _) _) _).step h2 | exact (Since.drew (Since.refl _)).step h2 | exact (Since.alloc (Since.alloc (Since.alloc (Since.refl _) _) _) _).step h2))
  replace HX := Lib.hid (HX.out.since (by first | exact h2 | exact (Since.alloc (Since.refl _) _).step h2 | exact (Since.alloc (Since.alloc (Since.refl _) _) _).step h2 | exact (Since.drew (Since.refl _)).step h2 | exact (Since.alloc (Since.alloc (Since.alloc (Since.refl _) _) _) _).step h2))
  replace HS := Lib.hid (HS.out.step (by first | exact h2 | exact (Since.alloc (Since.refl _) _).step h2 | exact (Since.alloc (Since.alloc (Since.refl _) _) _).step h2 | exact (Since.drew (Since.refl _)).step h2 | exact (Since.alloc (Since.alloc (Since.alloc (Since.refl _) _) _) _).step h2))
  clear h2
  obtain ⟨_, m0, m1, m2, m3⟩ := hb4 hp
  go_wp2_with fail
  clear m0 m1 m2 m3
  refine (c9.calls0 hp.out.tabs) ?_
  intro w3 h3
  replace HS := Lib.hid (HS.out.step (by first | exact h3 | exact (Since.alloc (Since.refl _) _).step h3 | exact (Since.alloc (Since.alloc (Since.refl _) _) _).step h3 | exact (Since.drew (Since.refl _)).step h3 | exact (Since.alloc (Since.alloc (Since.alloc (Since.refl _) _) _) _).step h3))
  clear h3
  go_wp2_with fail
  go_ret
  exact ⟨rfl, HS.out⟩
set_option maxRecDepth 100000 in
set_option maxHeartbeats 4000000 in
theorem big_6 (w : World) (l u m v e : ByteArray) (A : Option Addr) (n q : Nat) (L : List A2) (c g b : ByteArray) (hx : AttsS w (.slice A n q) L) (l1 : l.size ≤ 20) (l2 : c.size ≤ 200) (l3 : g.size = 16) (l4 : 3000 < b.size) (c0 : Mak 20 #[.agg #[.string u, .string m, .string v, .string e]] (.bool true)) (cF : RdA 21 L (fun x => #[x, .int .i64 60]) (.bool true)) (hT : KH w) :
    Calls Tryd.prog 5 #[.string l, .agg #[.string u, .string m, .string v, .string e], .slice A n q, .string c, .string g, .string b] w fun x w' => x = .returned (.bool true) ∧ Since w w' := by
  have t1 : decide ((20 : Int) < (l.size : Int)) = false := decide_eq_false (by omega)
  have t2 : decide ((200 : Int) < (c.size : Int)) = false := decide_eq_false (by omega)
  have t3 : ((g.size : Int) != 16) = false := bne_eq_false_iff_eq.2 (by omega)
  have t4 : decide ((3000 : Int) < (b.size : Int)) = true := decide_eq_true (by omega)
  clear l1 l2 l3 l4
  have hp := Lib.hid (hb_new w KH hT #[.string u, .string m, .string v, .string e] 24)
  have HS := Lib.hid hp.out.since
  have HX := Lib.hid (hx.since ((Since.refl w).alloc (.cells #[.string u, .string m, .string v, .string e] 24)))
  have c9 := awake_k
  obtain ⟨_, m0, m1, m2, m3⟩ := hb4 hp
  clear hx
  go_enter Tryd.func5, Tryd.ntmps5
  go_wp2_with fail
  clear m0 m1 m2 m3
  refine (c0.calls0) ?_
  intro w1 h1
  replace hp := Lib.hid (hp.out.step (by first | exact h1 | exact (Since.alloc (Since.refl _) _).step h1 | exact (Since.alloc (Since.alloc (Since.refl _) _) _).step h1 | exact (Since.drew (Since.refl _)).step h1 | exact (Since.alloc (Since.alloc (Since.alloc (Since.refl _) _) _) _).step h1))
  replace HX := Lib.hid (HX.out.since (by first | exact h1 | exact (Since.alloc (Since.refl _) _).step h1 | exact (Since.alloc (Since.alloc (Since.refl _) _) _).step h1 | exact (Since.drew (Since.refl _)).step h1 | exact (Since.alloc (Since.alloc (Since.alloc (Since.refl _) _) _) _).step h1))
  replace HS := Lib.hid (HS.out.step (by first | exact h1 | exact (Since.alloc (Since.refl _) _).step h1 | exact (Since.alloc (Since.alloc (Since.refl _) _) _).step h1 | exact (Since.drew (Since.refl _)).step h1 | exact (Since.alloc (Since.alloc (Since.alloc (Since.refl _) _) _) _).step h1))
  clear h1
  obtain ⟨_, m0, m1, m2, m3⟩ := hb4 hp
  go_wp2_with fail
  clear m0 m1 m2 m3
  refine (cF.calls0 HX.out) ?_
  intro w2 h2
  replace hp := Lib.hid (hp.out.step (by first | exact h2 | exact (Since.alloc (Since.refl _) _).step h2 | exact (Since.alloc (Since.alloc (Since.refl _) _) _).step h2 | exact (Since.drew (Since.refl _)).step h2 | exact (Since.alloc (Since.alloc (Since.alloc (Since.refl _) _) _) _).step h2))
  replace HX := Lib.hid (HX.out.since (by first | exact h2 | exact (Since.alloc (Since.refl _) _).step h2 | exact (Since.alloc (Since.alloc (Since.refl _) _) _).step h2 | exact (Since.drew (Since.refl _)).step h2 | exact (Since.alloc (Since.alloc (Since.alloc (Since.refl _) _) _) _).step h2))
  replace HS := Lib.hid (HS.out.step (by first | exact h2 | exact (Since.alloc (Since.refl _) _).step h2 | exact (Since.alloc (Since.alloc (Since.refl _) _) _).step h2 | exact (Since.drew (Since.refl _)).step h2 | exact (Since.alloc (Since.alloc (Since.alloc (Since.refl _) _) _) _).step h2))
  clear h2
  obtain ⟨_, m0, m1, m2, m3⟩ := hb4 hp
  go_wp2_with fail
  clear m0 m1 m2 m3
  refine (c9.calls0 hp.out.tabs) ?_
  intro w3 h3
  replace HS := Lib.hid (HS.out.step (by first | exact h3 | exact (Since.alloc (Since.refl _) _).step h3 | exact (Since.alloc (Since.alloc (Since.refl _) _) _).step h3 | exact (Since.drew (Since.refl _)).step h3 | exact (Since.alloc (Since.alloc (Since.alloc (Since.refl _) _) _) _).step h3))
  clear h3
  go_wp2_with fail
  go_ret
  exact ⟨rfl, HS.out⟩
theorem head_sizes {u m v e : ByteArray} (h : Plain.headB u m v e = true) : u.size ≤ 100 ∧ m.size ≤ 100 ∧ v.size ≤ 100 ∧ e.size ≤ 100 := by
  unfold Plain.headB at h
  simp only [Bool.and_eq_true, decide_eq_true_eq] at h
  omega
theorem ext_small (s : ByteArray) (i j : Nat) (h : j ≤ i + 100) : (s.extract i j).size ≤ 100 := by
  rw [ByteArray.size_extract]; omega
theorem hex_size (x : ByteArray) : (bs (Dig.hexL x.data.toList)).size = 2 * x.size := by
  show (bs (Dig.hexL x.data.toList)).data.toList.length = _
  rw [list_bs, Dig.hexL_len]; rfl
theorem join_size (t c g : ByteArray) : (joinX t c g).size = t.size + 2 * c.size + 2 * g.size := by
  unfold joinX
  rw [ByteArray.size_append, ByteArray.size_append, hex_size, hex_size]
theorem selC_small (s : ByteArray) (h : cutE s = 0) (hb : s.size ≤ 3000) : (selC (cutR s)).size ≤ 3000 := by
  have hj := congrArg ByteArray.size (join_cut s h)
  rw [join_size] at hj
  omega
theorem selT_small (s : ByteArray) : (selT (cutR s)).size ≤ 100 := by
  unfold selT
  split
  · rw [ByteArray.size_extract]; omega
  · decide
set_option maxRecDepth 100000 in
theorem walk (w : World) (l u m v e : ByteArray) (A : Option Addr) (n q : Nat) (L : List A2) (c g b : ByteArray) (_f0 : l.size ≤ maxLen) (_f1 : u.size ≤ maxLen) (_f2 : m.size ≤ maxLen) (_f3 : v.size ≤ maxLen) (_f4 : e.size ≤ maxLen)
    (hx : AttsS w (.slice A n q) L) (_hn : n = L.length) (_hl : ∀ p ∈ L, (Lit.int .i64 p.1).wf = true ∧ p.2.size ≤ maxLen) (_w3 : c.size ≤ maxLen) (_w4 : g.size ≤ maxLen) (_w5 : b.size ≤ maxLen) (hT : KH w) :
    Calls Tryd.prog 5 #[.string l, .agg #[.string u, .string m, .string v, .string e], .slice A n q, .string c, .string g, .string b] w fun x w' => x = .returned (.bool true) ∧ Below w.heap.size w w' := by
  by_cases l1 : 20 < l.size
  · exact big_1 w l u m v e A n q L c g b hx l1 hT
  replace l1 : l.size ≤ 20 := by omega
  have c0 := Plain.head_mak u m v e _ rfl
  cases hq : Plain.headB u m v e with
  | false => rw [hq] at c0; exact big_2 w l u m v e A n q L c g b hx l1 c0 hT
  | true =>
    rw [hq] at c0
    have cF := few_rd L 60 (by decide) _ rfl
    cases hf : fewB L 60 with
    | false => rw [hf] at cF; exact big_3 w l u m v e A n q L c g b hx l1 c0 cF hT
    | true =>
      rw [hf] at cF
      by_cases l2 : 200 < c.size
      · exact big_4 w l u m v e A n q L c g b hx l1 l2 c0 cF hT
      replace l2 : c.size ≤ 200 := by omega
      by_cases l3 : g.size = 16
      case neg => exact big_5 w l u m v e A n q L c g b hx l1 l2 l3 c0 cF hT
      by_cases l4 : 3000 < b.size
      · exact big_6 w l u m v e A n q L c g b hx l1 l2 l3 l4 c0 cF hT
      replace l4 : b.size ≤ 3000 := by omega
      have c1 := top_any l u m v e L (c.size : Int) (head_sizes hq)
      have x0 := same_rd ⟨#[]⟩ ⟨#[]⟩ ⟨#[]⟩ ⟨#[]⟩ ⟨#[]⟩ [] ⟨#[]⟩ ⟨#[]⟩ ⟨#[]⟩
      by_cases hE : topE l u m v e L (c.size : Int) = 0
      · rw [hE] at c1
        obtain ⟨B, hB⟩ : ∃ B, B = joinX (topX l u m v e L (c.size : Int)) c g := ⟨_, rfl⟩
        have hXs : (topX l u m v e L (c.size : Int)).size ≤ 100000 := by
          have ht := top_ok_iff l u m v e L _ hE
          obtain ⟨z1, _, _⟩ := Header.dec_enc (topN L (c.size : Int)) (Opt.packN (oL L)) l u m v e ⟨#[]⟩ ht.inN ht.ok
          have := pk_size L
          unfold topX; rw [if_pos hE, ByteArray.size_append, z1]; omega
        have c2 := join_mak (topX l u m v e L (c.size : Int)) c g hXs (by omega) (by omega)
        rw [← hB] at c2
        obtain ⟨y1, y2, y3, y4, y5, y6, y7, y8, y9, y10⟩ := cut_top l u m v e L c g hE l3 B hB
        have c3 := cut_ok B y1
        rw [y2, y3, y4, y5, y6, y7, y8, y9, y10] at c3
        by_cases hb : cutE b = 0
        · obtain ⟨z1, z2⟩ := top_cut b hb (by have := selC_small b hb l4; omega)
          have c5 := top_any (b.extract 7 8) (b.extract 5 7) (b.extract 8 9) (b.extract 9 11) (b.extract 11 12) (fL (cutO b)) ((selC (cutR b)).size : Int) ⟨ext_small _ _ _ (by omega), ext_small _ _ _ (by omega), ext_small _ _ _ (by omega), ext_small _ _ _ (by omega)⟩
          rw [z1, z2] at c5
          have c6 := join_mak (b.extract 0 (cutD b)) (selC (cutR b)) (selT (cutR b)) (by rw [ByteArray.size_extract]; omega) (by have := selC_small b hb l4; omega) (by have := selT_small b; omega)
          rw [join_cut b hb] at c6
          exact core_11 w l u m v e A n q L c g b hx l1 l2 l3 l4 c0 cF _ (beq_self_eq_true _) c1 B c2 c3 _ _ _ _ _ _ _ _ _ (cut_ok b hb) (decide_eq_false (by have := selC_small b hb l4; omega)) (beq_self_eq_true _) c5 c6 hT
        · exact core_10 w l u m v e A n q L c g b hx l1 l2 l3 l4 c0 cF _ (beq_self_eq_true _) c1 B c2 c3 _ (bne_iff_ne.2 hb) (beq_eq_false_iff_ne.2 hb) (cut_bad b _ (split_bad b (by omega) hb)) x0 hT
      · by_cases hb : cutE b = 0
        · obtain ⟨z1, z2⟩ := top_cut b hb (by have := selC_small b hb l4; omega)
          have c5 := top_any (b.extract 7 8) (b.extract 5 7) (b.extract 8 9) (b.extract 9 11) (b.extract 11 12) (fL (cutO b)) ((selC (cutR b)).size : Int) ⟨ext_small _ _ _ (by omega), ext_small _ _ _ (by omega), ext_small _ _ _ (by omega), ext_small _ _ _ (by omega)⟩
          rw [z1, z2] at c5
          have c6 := join_mak (b.extract 0 (cutD b)) (selC (cutR b)) (selT (cutR b)) (by rw [ByteArray.size_extract]; omega) (by have := selC_small b hb l4; omega) (by have := selT_small b; omega)
          rw [join_cut b hb] at c6
          exact core_01 w l u m v e A n q L c g b hx l1 l2 l3 l4 c0 cF _ _ (beq_eq_false_iff_ne.2 hE) c1 _ _ _ _ _ _ _ _ _ (cut_ok b hb) (decide_eq_false (by have := selC_small b hb l4; omega)) (beq_self_eq_true _) c5 c6 hT
        · exact core_00 w l u m v e A n q L c g b hx l1 l2 l3 l4 c0 cF _ _ (beq_eq_false_iff_ne.2 hE) c1 _ (bne_iff_ne.2 hb) (beq_eq_false_iff_ne.2 hb) (cut_bad b _ (split_bad b (by omega) hb)) x0 hT

set_option maxRecDepth 100000 in
theorem own : ownKnob Tryd.prog.godebug = none := by kernel_rfl
set_option maxRecDepth 100000 in
theorem laidOut : laidOutB Tryd.prog = true := by kernel_rfl

def laidL {H : Type} : List (String × DataW H) := [("claviger/kind.lines", Rows.laid_claviger_kind_lines), ("claviger/table.lines", Rows.laid_claviger_table_lines)]
set_option maxRecDepth 100000 in
theorem door_met (os : Os) (args : Array Value) : laidMetH Tryd.prog laidL ((World.doorLaid Tryd.prog 400 os).forCall (fun _ _ => 0) ⟨#[], args, []⟩).memory :=
  laidMetH_of_parts3 (fuel := 8) (laidMet_of_run' 8 (by kernel_rfl) (by kernel_rfl)) (by kernel_rfl) (by kernel_rfl)
set_option maxRecDepth 100000 in
theorem lifted (os : Os) (started : os.Started) (H : Type) (enc : TypeId × Value → H) :
    ReturnsInHanded {} Tryd.checked os 5 .any (fun w args => (Rows.frameBackSpec.pre enc Tryd.prog Tryd.f5 [] false w args ∧ laidMetH Tryd.prog laidL w) ∧ sizedMet enc Tryd.prog Tryd.f5 (OpenSpec.ofChange Rows.frameBackSpec) false w args)
      (Rows.frameBackSpec.post enc Tryd.prog Tryd.f5 false true false false) := by
  refine returnsInHanded_of_change_and (C := Tryd.checked) (X := fun w _ => laidMetH Tryd.prog laidL w) (fun _ _ _ hh h => h.of_heap hh) own started (by kernel_rfl) Tryd.func5
    (ChangeSpec.witness_shaped (enc := enc) (C := Tryd.checked) (os := os) (X := fun w _ => laidMetH Tryd.prog laidL w) false (World.doorLaid Tryd.prog 400 os) #[.string ⟨#[]⟩, .agg #[.string ⟨#[]⟩, .string ⟨#[]⟩, .string ⟨#[]⟩, .string ⟨#[]⟩], .slice none 0 0, .string ⟨#[]⟩, .string ⟨#[]⟩, .string ⟨#[]⟩] 8 rfl (World.shaped_of_RefB (by kernel_rfl) (by kernel_rfl)) (by kernel_rfl) (by kernel_rfl) (by kernel_rfl) (door_met os _)) ?_
  intro W base args ds gs before hval0 hW _ _ hL _
  have hval : ∀ (j : Nat) t v, Tryd.f5.params[j]? = some t → args[j]? = some v → Value.okWide Tryd.prog W .any base t v := hval0
  have hW' := hW
  obtain ⟨p, q, hA0, hV, rfl, hfz, hnd⟩ := hW
  have hA : DataW.TrodAll enc Tryd.prog W 0 (fun _ => true) true Tryd.f5.params.toList args.toList ds p := hA0
  rw [Tryd.params5] at hA hval
  obtain ⟨v0, vs0, d0, ds0, p0, q0, hargs, rfl, rfl, h0, r0⟩ := trodAll_cons hA
  obtain ⟨v1, vs1, d1, ds1, p1, q1, rfl, rfl, rfl, h1, r1⟩ := trodAll_cons r0
  obtain ⟨v2, vs2, d2, ds2, p2, q2, rfl, rfl, rfl, h2, r2⟩ := trodAll_cons r1
  obtain ⟨v3, vs3, d3, ds3, p3, q3, rfl, rfl, rfl, h3, r3⟩ := trodAll_cons r2
  obtain ⟨v4, vs4, d4, ds4, p4, q4, rfl, rfl, rfl, h4, r4⟩ := trodAll_cons r3
  obtain ⟨v5, vs5, d5, ds5, p5, q5, rfl, rfl, rfl, h5, r5⟩ := trodAll_cons r4
  obtain ⟨rfl, rfl, rfl⟩ := trodAll_nil r5
  obtain rfl : args = #[v0, v1, v2, v3, v4, v5] := by cases args; simp_all
  obtain ⟨rfl, rfl⟩ := trodVars_none hV
  obtain ⟨a0, rfl, rfl, rfl, w0⟩ := Go.ChangeMaps.open_string Tryd.underlying9 (hval 0 9 v0 rfl rfl) h0
  obtain ⟨c1_0, c1_1, c1_2, c1_3, y1_0, y1_1, y1_2, y1_3, m1, rfl, rfl, rfl, hy1_0, hy1_1, hy1_2, hy1_3⟩ := Go.Joins.open_agg4 Tryd.underlying24 (by kernel_rfl) (by kernel_rfl) (hval 1 24 v1 rfl rfl) h1
  obtain ⟨a1_0, e1_0, rfl, w1_0⟩ := DataW.trod_string Tryd.underlying9 hy1_0
  simp only [List.cons.injEq, and_true] at e1_0
  subst e1_0
  obtain ⟨a1_1, e1_1, rfl, w1_1⟩ := DataW.trod_string Tryd.underlying9 hy1_1
  simp only [List.cons.injEq, and_true] at e1_1
  subst e1_1
  obtain ⟨a1_2, e1_2, rfl, w1_2⟩ := DataW.trod_string Tryd.underlying9 hy1_2
  simp only [List.cons.injEq, and_true] at e1_2
  subst e1_2
  obtain ⟨a1_3, e1_3, rfl, w1_3⟩ := DataW.trod_string Tryd.underlying9 hy1_3
  simp only [List.cons.injEq, and_true] at e1_3
  subst e1_3
  obtain ⟨a2, n2, c2, rfl⟩ := okWide_slice Tryd.underlying22 (hval 2 22 v2 rfl rfl)
  have h2k := h2
  obtain ⟨fuel2, hf2⟩ := h2
  have hlt2 : ∀ x ∈ p2, x.block < W.heap.size := fun x hx => by simpa using hW'.lt x (by simp [hx])
  obtain ⟨x2, lA2, lN2, lX2⟩ := atts_arg hf2 hlt2
  obtain ⟨a3, rfl, rfl, rfl, w3⟩ := Go.ChangeMaps.open_string Tryd.underlying9 (hval 3 9 v3 rfl rfl) h3
  obtain ⟨a4, rfl, rfl, rfl, w4⟩ := Go.ChangeMaps.open_string Tryd.underlying9 (hval 4 9 v4 rfl rfl) h4
  obtain ⟨a5, rfl, rfl, rfl, w5⟩ := Go.ChangeMaps.open_string Tryd.underlying9 (hval 5 9 v5 rfl rfl) h5
  clear hA0 hval0
  simp only [List.append_nil] at hW'
  refine (walk W a0 a1_0 a1_1 a1_2 a1_3 a2 n2 c2 x2 a3 a4 a5 w0 w1_0 w1_1 w1_2 w1_3 lA2 lN2 lX2 w3 w4 w5 (Header.tabs_of hL)).mono fun e W' ⟨he, hg⟩ => ?_
  subst he
  exact ⟨_, rfl, _, _, _, _, _, [], hW', (trodAll_cons_mk (shut_bool Tryd.underlying4 _) trodAll_mk0), (trodAll_cons_mk (Go.ChangeMaps.shut_string Tryd.underlying9 w0) (trodAll_cons_mk (Go.Joins.shut_agg4 (y0 := (.lit (.string a1_0.data.toList), [])) (y1 := (.lit (.string a1_1.data.toList), [])) (y2 := (.lit (.string a1_2.data.toList), [])) (y3 := (.lit (.string a1_3.data.toList), [])) Tryd.underlying24 (by kernel_rfl) (by kernel_rfl) (Go.Joins.field_of_Trod (Go.ChangeMaps.shut_string Tryd.underlying9 w1_0) rfl) (Go.Joins.field_of_Trod (Go.ChangeMaps.shut_string Tryd.underlying9 w1_1) rfl) (Go.Joins.field_of_Trod (Go.ChangeMaps.shut_string Tryd.underlying9 w1_2) rfl) (Go.Joins.field_of_Trod (Go.ChangeMaps.shut_string Tryd.underlying9 w1_3) rfl)) (trodAll_cons_mk (Below.trod laidOut (by kernel_rfl) (of_decide_eq_true (by kernel_rfl)) h2k hg hlt2) (trodAll_cons_mk (Go.ChangeMaps.shut_string Tryd.underlying9 w3) (trodAll_cons_mk (Go.ChangeMaps.shut_string Tryd.underlying9 w4) (trodAll_cons_mk (Go.ChangeMaps.shut_string Tryd.underlying9 w5) trodAll_mk0)))))), rfl, hg.frame _, fun h => by cases h⟩

set_option maxRecDepth 100000 in
theorem over : Rows.frameBackRow.holds Tryd.pinned (OpenSpec.ofChange Rows.frameBackSpec) :=
  OpenClaim.holds_of_wide 5 Tryd.f5 rfl rfl rfl rfl rfl rfl rfl ⟨rfl, rfl, rfl, rfl, rfl⟩ rfl rfl rfl rfl rfl (by kernel_rfl) Tryd.func5 (by kernel_rfl)
    (of_decide_eq_true (by kernel_rfl)) (by unfold Func.isWrapper; first | (rw [if_pos (by decide +kernel)]; kernel_rfl) | (rw [if_neg (by decide +kernel)]; exact ⟨rfl, rfl⟩))
    (fun os started H enc _ => lifted os started H enc)

set_option maxRecDepth 100000 in
theorem proved : Rows.FrameBackCardSaid :=
  Claim7.holds_tied_plain_at .later [] [.data, .data] true Rows.frameBackCard.stood.harness false
    over (fun _ h => by cases h) (by kernel_rfl) (fun _ h => by cases h) frameBack_row_tie rfl ⟨rfl, rfl⟩ (by kernel_rfl) rfl
    (fun f fn hf hfn => by
      obtain rfl : f = 5 := Option.some.inj ((show Tryd.prog.funcNamed "claviger/clavigerlaw34.FrameBack" = some 5 by kernel_rfl).symm.trans hf) |>.symm
      obtain rfl : fn = Tryd.f5 := (Option.some.inj (Tryd.func5.symm.trans hfn)).symm
      exact ⟨by kernel_rfl, fun j t ht => by
        rw [Tryd.params5] at ht
        have hm : t ∈ [9, 24, 22, 9, 9, 9] := by simpa using Array.mem_of_getElem? ht
        have hall : ([9, 24, 22, 9, 9, 9].all fun u => !Tryd.prog.wantsStandIn u) = true := by kernel_rfl
        exact (show Tryd.prog.wantsStandIn t = false by simpa using List.all_eq_true.1 hall t hm)⟩)
    (by kernel_rfl)

end Go.Proofs.YtoledeeefcbgnaaDoor.frameBack
