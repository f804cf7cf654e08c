/- Joined texts. -/
-- PACK: YtapjmbjoklppnaaGreatDoorFrame YtapjmbjoklppnaaGreatDoorFrame2
import Derived.Test.YtapjmbjoklppnaaGreatDoorFs28
import Derived.Test.YtapjmbjoklppnaaGreatDoorFs25
import Derived.Test.YtapjmbjoklppnaaGreatDoorFs31
import Derived.BigQuiet
import Derived.Deep.QuietTactic

/- Package frame: Top, Join, the payload's and the tag's digits. -/
namespace Go.Proofs.YtapjmbjoklppnaaGreatDoor
open Go.RowKit
namespace Frame
open Att Templ Header
/-- which numbers of bytes of a payload may be -/
def badN (l : ByteArray) (n : Int) : Bool := decide (Kind.mostN l.data.toList = 0) || decide (n < 16) || decide (4096 < n) || decide (n % 16 ≠ 0)
def pk (L : List A2) : ByteArray := Opt.packX (oL L)
def topN (L : List A2) (n : Int) : Int := 16 + ((pk L).size : Int) + 2 * n + 32
def topE (l u m v e : ByteArray) (L : List A2) (n : Int) : Int := if badN l n then 1 else if Table.okB u.data.toList m.data.toList v.data.toList e.data.toList l.data.toList = false then 12 else if oE L ≠ 0 then oE L else if Opt.packE (oL L) ≠ 0 then 4 else if 9999 < topN L n then 4 else 0
def topX (l u m v e : ByteArray) (L : List A2) (n : Int) : ByteArray := if topE l u m v e L n = 0 then encX (topN L n) (Opt.packN (oL L)) l u m v e ++ pk L else ⟨#[]⟩
/-- a call that is handed attributes at the third place -/
def RdT (l u m v e : ByteArray) (L : List A2) (n : Int) (V : Value) : Prop := ∀ w x, KH w → AttsS w x L → Calls Tryz.prog 8 #[.string l, .agg #[.string u, .string m, .string v, .string e], x, .int .i64 n] w fun z w' => z = .returned V ∧ Below w.heap.size w w'
set_option maxRecDepth 100000 in
theorem RdT.calls0 {l u m v e : ByteArray} {L : List A2} {n : Int} {V : Value} (h : RdT l u m v e L n V) {w : World} {x : Value} (hT : KH w) (hx : AttsS w x L) {R : Ending → World → Prop} (k : ∀ w', Since w w' → R (.returned V) w') : Calls Tryz.prog 8 #[.string l, .agg #[.string u, .string m, .string v, .string e], x, .int .i64 n] w R :=
  (h w x hT hx).mono fun _ _ ⟨he, hb⟩ => by subst he; exact k _ hb
set_option maxRecDepth 100000 in
theorem top_b1 (l u m v e : ByteArray) (L : List A2) (n : Int) (X : Int) (c1 : KMk KH 20 #[.string l] (.int .i64 X)) (h : (X == 0) = true) : RdT l u m v e L n (.tuple #[.string ⟨#[]⟩, .int .i64 1]) := by
  intro w x hT hx
  have hp := Lib.hid (hb_new w KH hT #[.string u, .string m, .string v, .string e] 23)
  have HS := Lib.hid hp.out.since
  have HX : Hid (AttsS (w.alloc (.cells #[.string u, .string m, .string v, .string e] 23)) x L) := Lib.hid (hx.since ((Since.refl w).alloc _))
  obtain ⟨_, m0, m1, m2, m3⟩ := hb4 hp
  clear hx
  go_enter Tryz.func8, Tryz.ntmps8
  go_wp2_with fail
  refine (c1.calls0 hp.out.tabs) ?_
  intro w1 h1
  replace hp := Lib.hid (hp.out.step (by first | exact h1 | exact (Since.alloc (Since.refl _) _).step h1 | exact (Since.alloc (Since.alloc (Since.refl _) _) _).step h1 | exact (Since.drew (Since.refl _)).step h1 | exact (Since.alloc (Since.alloc (Since.alloc (Since.refl _) _) _) _).step h1))
  replace HX := Lib.hid (HX.out.since (by first | exact h1 | exact (Since.alloc (Since.refl _) _).step h1 | exact (Since.alloc (Since.alloc (Since.refl _) _) _).step h1 | exact (Since.drew (Since.refl _)).step h1 | exact (Since.alloc (Since.alloc (Since.alloc (Since.refl _) _) _) _).step h1))
  replace HS := Lib.hid (HS.out.step (by first | exact h1 | exact (Since.alloc (Since.refl _) _).step h1 | exact (Since.alloc (Since.alloc (Since.refl _) _) _).step h1 | exact (Since.drew (Since.refl _)).step h1 | exact (Since.alloc (Since.alloc (Since.alloc (Since.refl _) _) _) _).step h1))
  clear h1
  go_wp2_with fail
  go_ret2
  exact ⟨rfl, HS.out⟩
set_option maxRecDepth 100000 in
theorem top_b2 (l u m v e : ByteArray) (L : List A2) (n : Int) (X : Int) (c1 : KMk KH 20 #[.string l] (.int .i64 X)) (h : (X == 0) = false) (h2 : decide (n < 16) = true) : RdT l u m v e L n (.tuple #[.string ⟨#[]⟩, .int .i64 1]) := by
  intro w x hT hx
  have hp := Lib.hid (hb_new w KH hT #[.string u, .string m, .string v, .string e] 23)
  have HS := Lib.hid hp.out.since
  have HX : Hid (AttsS (w.alloc (.cells #[.string u, .string m, .string v, .string e] 23)) x L) := Lib.hid (hx.since ((Since.refl w).alloc _))
  obtain ⟨_, m0, m1, m2, m3⟩ := hb4 hp
  clear hx
  go_enter Tryz.func8, Tryz.ntmps8
  go_wp2_with fail
  refine (c1.calls0 hp.out.tabs) ?_
  intro w1 h1
  replace hp := Lib.hid (hp.out.step (by first | exact h1 | exact (Since.alloc (Since.refl _) _).step h1 | exact (Since.alloc (Since.alloc (Since.refl _) _) _).step h1 | exact (Since.drew (Since.refl _)).step h1 | exact (Since.alloc (Since.alloc (Since.alloc (Since.refl _) _) _) _).step h1))
  replace HX := Lib.hid (HX.out.since (by first | exact h1 | exact (Since.alloc (Since.refl _) _).step h1 | exact (Since.alloc (Since.alloc (Since.refl _) _) _).step h1 | exact (Since.drew (Since.refl _)).step h1 | exact (Since.alloc (Since.alloc (Since.alloc (Since.refl _) _) _) _).step h1))
  replace HS := Lib.hid (HS.out.step (by first | exact h1 | exact (Since.alloc (Since.refl _) _).step h1 | exact (Since.alloc (Since.alloc (Since.refl _) _) _).step h1 | exact (Since.drew (Since.refl _)).step h1 | exact (Since.alloc (Since.alloc (Since.alloc (Since.refl _) _) _) _).step h1))
  clear h1
  go_wp2_with fail
  go_ret2
  exact ⟨rfl, HS.out⟩
set_option maxRecDepth 100000 in
theorem top_b3 (l u m v e : ByteArray) (L : List A2) (n : Int) (X : Int) (c1 : KMk KH 20 #[.string l] (.int .i64 X)) (h : (X == 0) = false) (h2 : decide (n < 16) = false) (h3 : decide (4096 < n) = true) : RdT l u m v e L n (.tuple #[.string ⟨#[]⟩, .int .i64 1]) := by
  intro w x hT hx
  have hp := Lib.hid (hb_new w KH hT #[.string u, .string m, .string v, .string e] 23)
  have HS := Lib.hid hp.out.since
  have HX : Hid (AttsS (w.alloc (.cells #[.string u, .string m, .string v, .string e] 23)) x L) := Lib.hid (hx.since ((Since.refl w).alloc _))
  obtain ⟨_, m0, m1, m2, m3⟩ := hb4 hp
  clear hx
  go_enter Tryz.func8, Tryz.ntmps8
  go_wp2_with fail
  refine (c1.calls0 hp.out.tabs) ?_
  intro w1 h1
  replace hp := Lib.hid (hp.out.step (by first | exact h1 | exact (Since.alloc (Since.refl _) _).step h1 | exact (Since.alloc (Since.alloc (Since.refl _) _) _).step h1 | exact (Since.drew (Since.refl _)).step h1 | exact (Since.alloc (Since.alloc (Since.alloc (Since.refl _) _) _) _).step h1))
  replace HX := Lib.hid (HX.out.since (by first | exact h1 | exact (Since.alloc (Since.refl _) _).step h1 | exact (Since.alloc (Since.alloc (Since.refl _) _) _).step h1 | exact (Since.drew (Since.refl _)).step h1 | exact (Since.alloc (Since.alloc (Since.alloc (Since.refl _) _) _) _).step h1))
  replace HS := Lib.hid (HS.out.step (by first | exact h1 | exact (Since.alloc (Since.refl _) _).step h1 | exact (Since.alloc (Since.alloc (Since.refl _) _) _).step h1 | exact (Since.drew (Since.refl _)).step h1 | exact (Since.alloc (Since.alloc (Since.alloc (Since.refl _) _) _) _).step h1))
  clear h1
  go_wp2_with fail
  go_ret2
  exact ⟨rfl, HS.out⟩
set_option maxRecDepth 100000 in
theorem top_b4 (l u m v e : ByteArray) (L : List A2) (n : Int) (X : Int) (c1 : KMk KH 20 #[.string l] (.int .i64 X)) (h : (X == 0) = false) (h2 : decide (n < 16) = false) (h3 : decide (4096 < n) = false) (h4 : (n.tmod 16 != 0) = true) : RdT l u m v e L n (.tuple #[.string ⟨#[]⟩, .int .i64 1]) := by
  intro w x hT hx
  have hp := Lib.hid (hb_new w KH hT #[.string u, .string m, .string v, .string e] 23)
  have HS := Lib.hid hp.out.since
  have HX : Hid (AttsS (w.alloc (.cells #[.string u, .string m, .string v, .string e] 23)) x L) := Lib.hid (hx.since ((Since.refl w).alloc _))
  obtain ⟨_, m0, m1, m2, m3⟩ := hb4 hp
  clear hx
  go_enter Tryz.func8, Tryz.ntmps8
  go_wp2_with fail
  refine (c1.calls0 hp.out.tabs) ?_
  intro w1 h1
  replace hp := Lib.hid (hp.out.step (by first | exact h1 | exact (Since.alloc (Since.refl _) _).step h1 | exact (Since.alloc (Since.alloc (Since.refl _) _) _).step h1 | exact (Since.drew (Since.refl _)).step h1 | exact (Since.alloc (Since.alloc (Since.alloc (Since.refl _) _) _) _).step h1))
  replace HX := Lib.hid (HX.out.since (by first | exact h1 | exact (Since.alloc (Since.refl _) _).step h1 | exact (Since.alloc (Since.alloc (Since.refl _) _) _).step h1 | exact (Since.drew (Since.refl _)).step h1 | exact (Since.alloc (Since.alloc (Since.alloc (Since.refl _) _) _) _).step h1))
  replace HS := Lib.hid (HS.out.step (by first | exact h1 | exact (Since.alloc (Since.refl _) _).step h1 | exact (Since.alloc (Since.alloc (Since.refl _) _) _).step h1 | exact (Since.drew (Since.refl _)).step h1 | exact (Since.alloc (Since.alloc (Since.alloc (Since.refl _) _) _) _).step h1))
  clear h1
  go_wp2_with fail
  go_ret2
  exact ⟨rfl, HS.out⟩
set_option maxRecDepth 100000 in
theorem top_b5 (l u m v e : ByteArray) (L : List A2) (n : Int) (X : Int) (c1 : KMk KH 20 #[.string l] (.int .i64 X)) (h : (X == 0) = false) (h2 : decide (n < 16) = false) (h3 : decide (4096 < n) = false) (h4 : (n.tmod 16 != 0) = false)
    (c2 : KMk KH 21 #[.agg #[.string u, .string m, .string v, .string e], .string l] (.int .i64 12)) : RdT l u m v e L n (.tuple #[.string ⟨#[]⟩, .int .i64 12]) := by
  intro w x hT hx
  have hp := Lib.hid (hb_new w KH hT #[.string u, .string m, .string v, .string e] 23)
  have HS := Lib.hid hp.out.since
  have HX : Hid (AttsS (w.alloc (.cells #[.string u, .string m, .string v, .string e] 23)) x L) := Lib.hid (hx.since ((Since.refl w).alloc _))
  obtain ⟨_, m0, m1, m2, m3⟩ := hb4 hp
  clear hx
  go_enter Tryz.func8, Tryz.ntmps8
  go_wp2_with fail
  clear m0 m1 m2 m3
  refine (c1.calls0 hp.out.tabs) ?_
  intro w1 h1
  replace hp := Lib.hid (hp.out.step (by first | exact h1 | exact (Since.alloc (Since.refl _) _).step h1 | exact (Since.alloc (Since.alloc (Since.refl _) _) _).step h1 | exact (Since.drew (Since.refl _)).step h1 | exact (Since.alloc (Since.alloc (Since.alloc (Since.refl _) _) _) _).step h1))
  replace HX := Lib.hid (HX.out.since (by first | exact h1 | exact (Since.alloc (Since.refl _) _).step h1 | exact (Since.alloc (Since.alloc (Since.refl _) _) _).step h1 | exact (Since.drew (Since.refl _)).step h1 | exact (Since.alloc (Since.alloc (Since.alloc (Since.refl _) _) _) _).step h1))
  replace HS := Lib.hid (HS.out.step (by first | exact h1 | exact (Since.alloc (Since.refl _) _).step h1 | exact (Since.alloc (Since.alloc (Since.refl _) _) _).step h1 | exact (Since.drew (Since.refl _)).step h1 | exact (Since.alloc (Since.alloc (Since.alloc (Since.refl _) _) _) _).step h1))
  clear h1
  obtain ⟨_, m0, m1, m2, m3⟩ := hb4 hp
  go_wp2_with fail
  refine (c2.calls0 hp.out.tabs) ?_
  intro w2 h2
  replace hp := Lib.hid (hp.out.step (by first | exact h2 | exact (Since.alloc (Since.refl _) _).step h2 | exact (Since.alloc (Since.alloc (Since.refl _) _) _).step h2 | exact (Since.drew (Since.refl _)).step h2 | exact (Since.alloc (Since.alloc (Since.alloc (Since.refl _) _) _) _).step h2))
  replace HX := Lib.hid (HX.out.since (by first | exact h2 | exact (Since.alloc (Since.refl _) _).step h2 | exact (Since.alloc (Since.alloc (Since.refl _) _) _).step h2 | exact (Since.drew (Since.refl _)).step h2 | exact (Since.alloc (Since.alloc (Since.alloc (Since.refl _) _) _) _).step h2))
  replace HS := Lib.hid (HS.out.step (by first | exact h2 | exact (Since.alloc (Since.refl _) _).step h2 | exact (Since.alloc (Since.alloc (Since.refl _) _) _).step h2 | exact (Since.drew (Since.refl _)).step h2 | exact (Since.alloc (Since.alloc (Since.alloc (Since.refl _) _) _) _).step h2))
  clear h2
  go_wp2_with fail
  go_ret2
  exact ⟨rfl, HS.out⟩
set_option maxRecDepth 100000 in
theorem top_b6 (l u m v e : ByteArray) (L : List A2) (n : Int) (hn : 16 ≤ n ∧ n ≤ 4096) (X : Int) (c1 : KMk KH 20 #[.string l] (.int .i64 X)) (h : (X == 0) = false) (hm : n % 16 = 0)
    (c2 : KMk KH 21 #[.agg #[.string u, .string m, .string v, .string e], .string l] (.int .i64 0)) (O : List Opt.P2) (E : Int) (c3 : MkP 22 L O E) (hE : (E == 0) = false) : RdT l u m v e L n (.tuple #[.string ⟨#[]⟩, .int .i64 E]) := by
  intro w x hT hx
  have t1 : decide (n < 16) = false := decide_eq_false (by omega)
  have t2 : decide (4096 < n) = false := decide_eq_false (by omega)
  have t3 : (n % 16 != 0) = false := bne_eq_false_iff_eq.2 hm
  have t4 : (n.tmod 16 != 0) = false := by rw [Int.tmod_eq_emod_of_nonneg (by omega)]; exact t3
  have hp := Lib.hid (hb_new w KH hT #[.string u, .string m, .string v, .string e] 23)
  have HS := Lib.hid hp.out.since
  have HX : Hid (AttsS (w.alloc (.cells #[.string u, .string m, .string v, .string e] 23)) x L) := Lib.hid (hx.since ((Since.refl w).alloc _))
  obtain ⟨_, m0, m1, m2, m3⟩ := hb4 hp
  clear hx
  go_enter Tryz.func8, Tryz.ntmps8
  go_wp2_with fail
  clear m0 m1 m2 m3
  refine (c1.calls0 hp.out.tabs) ?_
  intro w1 h1
  replace hp := Lib.hid (hp.out.step (by first | exact h1 | exact (Since.alloc (Since.refl _) _).step h1 | exact (Since.alloc (Since.alloc (Since.refl _) _) _).step h1 | exact (Since.drew (Since.refl _)).step h1 | exact (Since.alloc (Since.alloc (Since.alloc (Since.refl _) _) _) _).step h1))
  replace HX := Lib.hid (HX.out.since (by first | exact h1 | exact (Since.alloc (Since.refl _) _).step h1 | exact (Since.alloc (Since.alloc (Since.refl _) _) _).step h1 | exact (Since.drew (Since.refl _)).step h1 | exact (Since.alloc (Since.alloc (Since.alloc (Since.refl _) _) _) _).step h1))
  replace HS := Lib.hid (HS.out.step (by first | exact h1 | exact (Since.alloc (Since.refl _) _).step h1 | exact (Since.alloc (Since.alloc (Since.refl _) _) _).step h1 | exact (Since.drew (Since.refl _)).step h1 | exact (Since.alloc (Since.alloc (Since.alloc (Since.refl _) _) _) _).step h1))
  clear h1
  obtain ⟨_, m0, m1, m2, m3⟩ := hb4 hp
  go_wp2_with fail
  clear m0 m1 m2 m3
  refine (c2.calls0 hp.out.tabs) ?_
  intro w2 h2
  replace hp := Lib.hid (hp.out.step (by first | exact h2 | exact (Since.alloc (Since.refl _) _).step h2 | exact (Since.alloc (Since.alloc (Since.refl _) _) _).step h2 | exact (Since.drew (Since.refl _)).step h2 | exact (Since.alloc (Since.alloc (Since.alloc (Since.refl _) _) _) _).step h2))
  replace HX := Lib.hid (HX.out.since (by first | exact h2 | exact (Since.alloc (Since.refl _) _).step h2 | exact (Since.alloc (Since.alloc (Since.refl _) _) _).step h2 | exact (Since.drew (Since.refl _)).step h2 | exact (Since.alloc (Since.alloc (Since.alloc (Since.refl _) _) _) _).step h2))
  replace HS := Lib.hid (HS.out.step (by first | exact h2 | exact (Since.alloc (Since.refl _) _).step h2 | exact (Since.alloc (Since.alloc (Since.refl _) _) _).step h2 | exact (Since.drew (Since.refl _)).step h2 | exact (Since.alloc (Since.alloc (Since.alloc (Since.refl _) _) _) _).step h2))
  clear h2
  go_wp2_with fail
  refine (c3.calls0 HX.out) ?_
  intro v3 w3 hv3 h3
  have HV3 := Lib.hid hv3
  clear hv3
  replace hp := Lib.hid (hp.out.step (by first | exact h3 | exact (Since.alloc (Since.refl _) _).step h3 | exact (Since.alloc (Since.alloc (Since.refl _) _) _).step h3 | exact (Since.drew (Since.refl _)).step h3 | exact (Since.alloc (Since.alloc (Since.alloc (Since.refl _) _) _) _).step h3))
  replace HS := Lib.hid (HS.out.step (by first | exact h3 | exact (Since.alloc (Since.refl _) _).step h3 | exact (Since.alloc (Since.alloc (Since.refl _) _) _).step h3 | exact (Since.drew (Since.refl _)).step h3 | exact (Since.alloc (Since.alloc (Since.alloc (Since.refl _) _) _) _).step h3))
  clear h3
  go_wp2_with fail
  go_ret2
  exact ⟨rfl, HS.out⟩
set_option maxRecDepth 100000 in
theorem top_b7 (l u m v e : ByteArray) (L : List A2) (n : Int) (hn : 16 ≤ n ∧ n ≤ 4096) (X : Int) (c1 : KMk KH 20 #[.string l] (.int .i64 X)) (h : (X == 0) = false) (hm : n % 16 = 0)
    (c2 : KMk KH 21 #[.agg #[.string u, .string m, .string v, .string e], .string l] (.int .i64 0)) (O : List Opt.P2) (c3 : MkP 22 L O 0) (P : ByteArray) (N E : Int) (c4 : Opt.RdO 23 O (fun x => #[x]) (.tuple #[.string P, .int .i64 N, .int .i64 E])) (hE : (E == 0) = false) : RdT l u m v e L n (.tuple #[.string ⟨#[]⟩, .int .i64 E]) := by
  intro w x hT hx
  have t1 : decide (n < 16) = false := decide_eq_false (by omega)
  have t2 : decide (4096 < n) = false := decide_eq_false (by omega)
  have t3 : (n % 16 != 0) = false := bne_eq_false_iff_eq.2 hm
  have t4 : (n.tmod 16 != 0) = false := by rw [Int.tmod_eq_emod_of_nonneg (by omega)]; exact t3
  have hp := Lib.hid (hb_new w KH hT #[.string u, .string m, .string v, .string e] 23)
  have HS := Lib.hid hp.out.since
  have HX : Hid (AttsS (w.alloc (.cells #[.string u, .string m, .string v, .string e] 23)) x L) := Lib.hid (hx.since ((Since.refl w).alloc _))
  obtain ⟨_, m0, m1, m2, m3⟩ := hb4 hp
  clear hx
  go_enter Tryz.func8, Tryz.ntmps8
  go_wp2_with fail
  clear m0 m1 m2 m3
  refine (c1.calls0 hp.out.tabs) ?_
  intro w1 h1
  replace hp := Lib.hid (hp.out.step (by first | exact h1 | exact (Since.alloc (Since.refl _) _).step h1 | exact (Since.alloc (Since.alloc (Since.refl _) _) _).step h1 | exact (Since.drew (Since.refl _)).step h1 | exact (Since.alloc (Since.alloc (Since.alloc (Since.refl _) _) _) _).step h1))
  replace HX := Lib.hid (HX.out.since (by first | exact h1 | exact (Since.alloc (Since.refl _) _).step h1 | exact (Since.alloc (Since.alloc (Since.refl _) _) _).step h1 | exact (Since.drew (Since.refl _)).step h1 | exact (Since.alloc (Since.alloc (Since.alloc (Since.refl _) _) _) _).step h1))
  replace HS := Lib.hid (HS.out.step (by first | exact h1 | exact (Since.alloc (Since.refl _) _).step h1 | exact (Since.alloc (Since.alloc (Since.refl _) _) _).step h1 | exact (Since.drew (Since.refl _)).step h1 | exact (Since.alloc (Since.alloc (Since.alloc (Since.refl _) _) _) _).step h1))
  clear h1
  obtain ⟨_, m0, m1, m2, m3⟩ := hb4 hp
  go_wp2_with fail
  clear m0 m1 m2 m3
  refine (c2.calls0 hp.out.tabs) ?_
  intro w2 h2
  replace hp := Lib.hid (hp.out.step (by first | exact h2 | exact (Since.alloc (Since.refl _) _).step h2 | exact (Since.alloc (Since.alloc (Since.refl _) _) _).step h2 | exact (Since.drew (Since.refl _)).step h2 | exact (Since.alloc (Since.alloc (Since.alloc (Since.refl _) _) _) _).step h2))
  replace HX := Lib.hid (HX.out.since (by first | exact h2 | exact (Since.alloc (Since.refl _) _).step h2 | exact (Since.alloc (Since.alloc (Since.refl _) _) _).step h2 | exact (Since.drew (Since.refl _)).step h2 | exact (Since.alloc (Since.alloc (Since.alloc (Since.refl _) _) _) _).step h2))
  replace HS := Lib.hid (HS.out.step (by first | exact h2 | exact (Since.alloc (Since.refl _) _).step h2 | exact (Since.alloc (Since.alloc (Since.refl _) _) _).step h2 | exact (Since.drew (Since.refl _)).step h2 | exact (Since.alloc (Since.alloc (Since.alloc (Since.refl _) _) _) _).step h2))
  clear h2
  go_wp2_with fail
  refine (c3.calls0 HX.out) ?_
  intro v3 w3 hv3 h3
  have HV3 := Lib.hid hv3
  clear hv3
  replace hp := Lib.hid (hp.out.step (by first | exact h3 | exact (Since.alloc (Since.refl _) _).step h3 | exact (Since.alloc (Since.alloc (Since.refl _) _) _).step h3 | exact (Since.drew (Since.refl _)).step h3 | exact (Since.alloc (Since.alloc (Since.alloc (Since.refl _) _) _) _).step h3))
  replace HS := Lib.hid (HS.out.step (by first | exact h3 | exact (Since.alloc (Since.refl _) _).step h3 | exact (Since.alloc (Since.alloc (Since.refl _) _) _).step h3 | exact (Since.drew (Since.refl _)).step h3 | exact (Since.alloc (Since.alloc (Since.alloc (Since.refl _) _) _) _).step h3))
  clear h3
  go_wp2_with fail
  refine (c4.calls0 HV3.out) ?_
  intro w4 h4
  replace hp := Lib.hid (hp.out.step (by first | exact h4 | exact (Since.alloc (Since.refl _) _).step h4 | exact (Since.alloc (Since.alloc (Since.refl _) _) _).step h4 | exact (Since.drew (Since.refl _)).step h4 | exact (Since.alloc (Since.alloc (Since.alloc (Since.refl _) _) _) _).step h4))
  replace HS := Lib.hid (HS.out.step (by first | exact h4 | exact (Since.alloc (Since.refl _) _).step h4 | exact (Since.alloc (Since.alloc (Since.refl _) _) _).step h4 | exact (Since.drew (Since.refl _)).step h4 | exact (Since.alloc (Since.alloc (Since.alloc (Since.refl _) _) _) _).step h4))
  clear h4
  go_wp2_with fail
  go_ret2
  exact ⟨rfl, HS.out⟩
set_option maxRecDepth 100000 in
theorem top_b8 (l u m v e : ByteArray) (L : List A2) (n : Int) (hn : 16 ≤ n ∧ n ≤ 4096) (X : Int) (c1 : KMk KH 20 #[.string l] (.int .i64 X)) (h : (X == 0) = false) (hm : n % 16 = 0)
    (c2 : KMk KH 21 #[.agg #[.string u, .string m, .string v, .string e], .string l] (.int .i64 0)) (O : List Opt.P2) (c3 : MkP 22 L O 0) (P : ByteArray) (hP : P.size ≤ 20000) (N : Int) (c4 : Opt.RdO 23 O (fun x => #[x]) (.tuple #[.string P, .int .i64 N, .int .i64 0]))
    (Z : Int) (hZ : 16 + (P.size : Int) + 2 * n + 32 = Z) (h9 : 9999 < Z) : RdT l u m v e L n (.tuple #[.string ⟨#[]⟩, .int .i64 4]) := by
  intro w x hT hx
  have t9 : decide (9999 < 16 + (P.size : Int) + 2 * n + 32) = true := decide_eq_true (by omega)
  clear hZ h9
  have t1 : decide (n < 16) = false := decide_eq_false (by omega)
  have t2 : decide (4096 < n) = false := decide_eq_false (by omega)
  have t3 : (n % 16 != 0) = false := bne_eq_false_iff_eq.2 hm
  have t4 : (n.tmod 16 != 0) = false := by rw [Int.tmod_eq_emod_of_nonneg (by omega)]; exact t3
  have hp := Lib.hid (hb_new w KH hT #[.string u, .string m, .string v, .string e] 23)
  have HS := Lib.hid hp.out.since
  have HX : Hid (AttsS (w.alloc (.cells #[.string u, .string m, .string v, .string e] 23)) x L) := Lib.hid (hx.since ((Since.refl w).alloc _))
  obtain ⟨_, m0, m1, m2, m3⟩ := hb4 hp
  clear hx
  go_enter Tryz.func8, Tryz.ntmps8
  go_wp2_with fail
  clear m0 m1 m2 m3
  refine (c1.calls0 hp.out.tabs) ?_
  intro w1 h1
  replace hp := Lib.hid (hp.out.step (by first | exact h1 | exact (Since.alloc (Since.refl _) _).step h1 | exact (Since.alloc (Since.alloc (Since.refl _) _) _).step h1 | exact (Since.drew (Since.refl _)).step h1 | exact (Since.alloc (Since.alloc (Since.alloc (Since.refl _) _) _) _).step h1))
  replace HX := Lib.hid (HX.out.since (by first | exact h1 | exact (Since.alloc (Since.refl _) _).step h1 | exact (Since.alloc (Since.alloc (Since.refl _) _) _).step h1 | exact (Since.drew (Since.refl _)).step h1 | exact (Since.alloc (Since.alloc (Since.alloc (Since.refl _) _) _) _).step h1))
  replace HS := Lib.hid (HS.out.step (by first | exact h1 | exact (Since.alloc (Since.refl _) _).step h1 | exact (Since.alloc (Since.alloc (Since.refl _) _) _).step h1 | exact (Since.drew (Since.refl _)).step h1 | exact (Since.alloc (Since.alloc (Since.alloc (Since.refl _) _) _) _).step h1))
  clear h1
  obtain ⟨_, m0, m1, m2, m3⟩ := hb4 hp
  go_wp2_with fail
  clear m0 m1 m2 m3
  refine (c2.calls0 hp.out.tabs) ?_
  intro w2 h2
  replace hp := Lib.hid (hp.out.step (by first | exact h2 | exact (Since.alloc (Since.refl _) _).step h2 | exact (Since.alloc (Since.alloc (Since.refl _) _) _).step h2 | exact (Since.drew (Since.refl _)).step h2 | exact (Since.alloc (Since.alloc (Since.alloc (Since.refl _) _) _) _).step h2))
  replace HX := Lib.hid (HX.out.since (by first | exact h2 | exact (Since.alloc (Since.refl _) _).step h2 | exact (Since.alloc (Since.alloc (Since.refl _) _) _).step h2 | exact (Since.drew (Since.refl _)).step h2 | exact (Since.alloc (Since.alloc (Since.alloc (Since.refl _) _) _) _).step h2))
  replace HS := Lib.hid (HS.out.step (by first | exact h2 | exact (Since.alloc (Since.refl _) _).step h2 | exact (Since.alloc (Since.alloc (Since.refl _) _) _).step h2 | exact (Since.drew (Since.refl _)).step h2 | exact (Since.alloc (Since.alloc (Since.alloc (Since.refl _) _) _) _).step h2))
  clear h2
  go_wp2_with fail
  refine (c3.calls0 HX.out) ?_
  intro v3 w3 hv3 h3
  have HV3 := Lib.hid hv3
  clear hv3
  replace hp := Lib.hid (hp.out.step (by first | exact h3 | exact (Since.alloc (Since.refl _) _).step h3 | exact (Since.alloc (Since.alloc (Since.refl _) _) _).step h3 | exact (Since.drew (Since.refl _)).step h3 | exact (Since.alloc (Since.alloc (Since.alloc (Since.refl _) _) _) _).step h3))
  replace HS := Lib.hid (HS.out.step (by first | exact h3 | exact (Since.alloc (Since.refl _) _).step h3 | exact (Since.alloc (Since.alloc (Since.refl _) _) _).step h3 | exact (Since.drew (Since.refl _)).step h3 | exact (Since.alloc (Since.alloc (Since.alloc (Since.refl _) _) _) _).step h3))
  clear h3
  go_wp2_with fail
  refine (c4.calls0 HV3.out) ?_
  intro w4 h4
  replace hp := Lib.hid (hp.out.step (by first | exact h4 | exact (Since.alloc (Since.refl _) _).step h4 | exact (Since.alloc (Since.alloc (Since.refl _) _) _).step h4 | exact (Since.drew (Since.refl _)).step h4 | exact (Since.alloc (Since.alloc (Since.alloc (Since.refl _) _) _) _).step h4))
  replace HS := Lib.hid (HS.out.step (by first | exact h4 | exact (Since.alloc (Since.refl _) _).step h4 | exact (Since.alloc (Since.alloc (Since.refl _) _) _).step h4 | exact (Since.drew (Since.refl _)).step h4 | exact (Since.alloc (Since.alloc (Since.alloc (Since.refl _) _) _) _).step h4))
  clear h4
  go_wp2_with fail
  go_ret2
  exact ⟨rfl, HS.out⟩
set_option maxRecDepth 100000 in
set_option maxHeartbeats 4000000 in
theorem top_ok (l u m v e : ByteArray) (L : List A2) (n : Int) (hn : 16 ≤ n ∧ n ≤ 4096) (X : Int) (c1 : KMk KH 20 #[.string l] (.int .i64 X)) (h : (X == 0) = false) (hm : n % 16 = 0)
    (c2 : KMk KH 21 #[.agg #[.string u, .string m, .string v, .string e], .string l] (.int .i64 0)) (O : List Opt.P2) (c3 : MkP 22 L O 0) (P : ByteArray) (hP : P.size ≤ 20000) (N : Int) (c4 : Opt.RdO 23 O (fun x => #[x]) (.tuple #[.string P, .int .i64 N, .int .i64 0]))
    (Z : Int) (hZ : 16 + (P.size : Int) + 2 * n + 32 = Z) (h9 : Z ≤ 9999) (H Y : ByteArray) (c5 : KMk KH 24 #[.agg #[.int .i64 Z, .string l, .int .i64 N, .string u, .string m, .string v, .string e]] (.tuple #[.string H, .int .i64 0])) (hY : H ++ P = Y) (hYs : Y.size ≤ 40000) : RdT l u m v e L n (.tuple #[.string Y, .int .i64 0]) := by
  intro w x hT hx
  have t9 : decide (9999 < 16 + (P.size : Int) + 2 * n + 32) = false := decide_eq_false (by omega)
  have HJ := Lib.hid (fun W => Oct.join_lit W [H, P] 2 rfl #[.string H, .string P] rfl Y (by apply ba_ext; rw [list_bs, ← hY, app_list]; simp [Oct.cat]) (by omega) (by decide))
  rw [← hZ] at c5
  clear hZ h9 hY
  have t1 : decide (n < 16) = false := decide_eq_false (by omega)
  have t2 : decide (4096 < n) = false := decide_eq_false (by omega)
  have t3 : (n % 16 != 0) = false := bne_eq_false_iff_eq.2 hm
  have t4 : (n.tmod 16 != 0) = false := by rw [Int.tmod_eq_emod_of_nonneg (by omega)]; exact t3
  have hp := Lib.hid (hb_new w KH hT #[.string u, .string m, .string v, .string e] 23)
  have HS := Lib.hid hp.out.since
  have HX : Hid (AttsS (w.alloc (.cells #[.string u, .string m, .string v, .string e] 23)) x L) := Lib.hid (hx.since ((Since.refl w).alloc _))
  obtain ⟨_, m0, m1, m2, m3⟩ := hb4 hp
  clear hx
  go_enter Tryz.func8, Tryz.ntmps8
  go_wp2_with fail
  clear m0 m1 m2 m3
  refine (c1.calls0 hp.out.tabs) ?_
  intro w1 h1
  replace hp := Lib.hid (hp.out.step (by first | exact h1 | exact (Since.alloc (Since.refl _) _).step h1 | exact (Since.alloc (Since.alloc (Since.refl _) _) _).step h1 | exact (Since.drew (Since.refl _)).step h1 | exact (Since.alloc (Since.alloc (Since.alloc (Since.refl _) _) _) _).step h1))
  replace HX := Lib.hid (HX.out.since (by first | exact h1 | exact (Since.alloc (Since.refl _) _).step h1 | exact (Since.alloc (Since.alloc (Since.refl _) _) _).step h1 | exact (Since.drew (Since.refl _)).step h1 | exact (Since.alloc (Since.alloc (Since.alloc (Since.refl _) _) _) _).step h1))
  replace HS := Lib.hid (HS.out.step (by first | exact h1 | exact (Since.alloc (Since.refl _) _).step h1 | exact (Since.alloc (Since.alloc (Since.refl _) _) _).step h1 | exact (Since.drew (Since.refl _)).step h1 | exact (Since.alloc (Since.alloc (Since.alloc (Since.refl _) _) _) _).step h1))
  clear h1
  obtain ⟨_, m0, m1, m2, m3⟩ := hb4 hp
  go_wp2_with fail
  clear m0 m1 m2 m3
  refine (c2.calls0 hp.out.tabs) ?_
  intro w2 h2
  replace hp := Lib.hid (hp.out.step (by first | exact h2 | exact (Since.alloc (Since.refl _) _).step h2 | exact (Since.alloc (Since.alloc (Since.refl _) _) _).step h2 | exact (Since.drew (Since.refl _)).step h2 | exact (Since.alloc (Since.alloc (Since.alloc (Since.refl _) _) _) _).step h2))
  replace HX := Lib.hid (HX.out.since (by first | exact h2 | exact (Since.alloc (Since.refl _) _).step h2 | exact (Since.alloc (Since.alloc (Since.refl _) _) _).step h2 | exact (Since.drew (Since.refl _)).step h2 | exact (Since.alloc (Since.alloc (Since.alloc (Since.refl _) _) _) _).step h2))
  replace HS := Lib.hid (HS.out.step (by first | exact h2 | exact (Since.alloc (Since.refl _) _).step h2 | exact (Since.alloc (Since.alloc (Since.refl _) _) _).step h2 | exact (Since.drew (Since.refl _)).step h2 | exact (Since.alloc (Since.alloc (Since.alloc (Since.refl _) _) _) _).step h2))
  clear h2
  go_wp2_with fail
  refine (c3.calls0 HX.out) ?_
  intro v3 w3 hv3 h3
  have HV3 := Lib.hid hv3
  clear hv3
  replace hp := Lib.hid (hp.out.step (by first | exact h3 | exact (Since.alloc (Since.refl _) _).step h3 | exact (Since.alloc (Since.alloc (Since.refl _) _) _).step h3 | exact (Since.drew (Since.refl _)).step h3 | exact (Since.alloc (Since.alloc (Since.alloc (Since.refl _) _) _) _).step h3))
  replace HS := Lib.hid (HS.out.step (by first | exact h3 | exact (Since.alloc (Since.refl _) _).step h3 | exact (Since.alloc (Since.alloc (Since.refl _) _) _).step h3 | exact (Since.drew (Since.refl _)).step h3 | exact (Since.alloc (Since.alloc (Since.alloc (Since.refl _) _) _) _).step h3))
  clear h3
  go_wp2_with fail
  refine (c4.calls0 HV3.out) ?_
  intro w4 h4
  replace hp := Lib.hid (hp.out.step (by first | exact h4 | exact (Since.alloc (Since.refl _) _).step h4 | exact (Since.alloc (Since.alloc (Since.refl _) _) _).step h4 | exact (Since.drew (Since.refl _)).step h4 | exact (Since.alloc (Since.alloc (Since.alloc (Since.refl _) _) _) _).step h4))
  replace HS := Lib.hid (HS.out.step (by first | exact h4 | exact (Since.alloc (Since.refl _) _).step h4 | exact (Since.alloc (Since.alloc (Since.refl _) _) _).step h4 | exact (Since.drew (Since.refl _)).step h4 | exact (Since.alloc (Since.alloc (Since.alloc (Since.refl _) _) _) _).step h4))
  clear h4
  obtain ⟨_, m0, m1, m2, m3⟩ := hb4 hp
  go_wp2_with fail
  clear m0 m1 m2 m3
  refine (c5.calls0 hp.out.tabs) ?_
  intro w5 h5
  replace hp := Lib.hid (hp.out.step (by first | exact h5 | exact (Since.alloc (Since.refl _) _).step h5 | exact (Since.alloc (Since.alloc (Since.refl _) _) _).step h5 | exact (Since.drew (Since.refl _)).step h5 | exact (Since.alloc (Since.alloc (Since.alloc (Since.refl _) _) _) _).step h5))
  replace HS := Lib.hid (HS.out.step (by first | exact h5 | exact (Since.alloc (Since.refl _) _).step h5 | exact (Since.alloc (Since.alloc (Since.refl _) _) _).step h5 | exact (Since.drew (Since.refl _)).step h5 | exact (Since.alloc (Since.alloc (Since.alloc (Since.refl _) _) _) _).step h5))
  clear h5
  go_wp2_with fail
  refine (HJ.out _).mono ?_
  rintro e w6 ⟨rfl, h6⟩
  replace HS := Lib.hid (HS.out.step h6)
  go_wp2_with fail
  go_ret2
  exact ⟨rfl, HS.out⟩
end Frame
end Go.Proofs.YtapjmbjoklppnaaGreatDoor

/- Package frame: Join, the digits behind the top, the header. -/
namespace Go.Proofs.YtapjmbjoklppnaaGreatDoor
open Go.RowKit
namespace Frame
open Att Templ Header
/-- what is put together -/
def joinX (t c g : ByteArray) : ByteArray := t ++ bs (Dig.hexL c.data.toList) ++ bs (Dig.hexL g.data.toList)
set_option maxRecDepth 100000 in
theorem join_mak (t c g : ByteArray) (h1 : t.size ≤ 100000) (h2 : c.size ≤ 100000) (h3 : g.size ≤ 100000) : Mak 19 #[.string t, .string c, .string g] (.string (joinX t c g)) := by
  intro w
  have HS := Lib.hid (Since.refl w)
  have c1 : Mak 39 #[.string c] (.string (bs (Dig.hexL c.data.toList))) := fun W => Dig.hex_any c W (by omega)
  have c2 : Mak 39 #[.string g] (.string (bs (Dig.hexL g.data.toList))) := fun W => Dig.hex_any g W (by omega)
  have hc : c.data.toList.length = c.size := rfl
  have hg : g.data.toList.length = g.size := rfl
  have hs1 : (bs (Dig.hexL c.data.toList)).size = 2 * c.size := by rw [size_bs, Dig.hexL_len, hc]
  have hs2 : (bs (Dig.hexL g.data.toList)).size = 2 * g.size := by rw [size_bs, Dig.hexL_len, hg]
  obtain ⟨C, hC⟩ : ∃ C, bs (Dig.hexL c.data.toList) = C := ⟨_, rfl⟩
  obtain ⟨G, hG⟩ : ∃ G, bs (Dig.hexL g.data.toList) = G := ⟨_, rfl⟩
  obtain ⟨Y, hY⟩ : ∃ Y, joinX t c g = Y := ⟨_, rfl⟩
  have hY2 : t ++ C ++ G = Y := by rw [← hY, ← hC, ← hG]; rfl
  rw [hC] at c1 hs1
  rw [hG] at c2 hs2
  rw [hY]
  have HJ := Lib.hid (fun W => Oct.join_lit W [t, C, G] 3 rfl #[.string t, .string C, .string G] rfl Y (by apply ba_ext; rw [list_bs, ← hY2, app_list, app_list]; simp [Oct.cat]) (by rw [← hY2]; simp only [ByteArray.size_append]; omega) (by decide))
  clear hC hG hY hY2 hc hg
  go_enter Tryz.func19, Tryz.ntmps19
  go_wp2_with fail
  repeat (first
    | (with_reducible refine c1.calls HS.out ?_; intro wz hz; replace HS := Lib.hid hz; clear hz; try go_wp2_with fail)
    | (with_reducible refine c2.calls HS.out ?_; intro wz hz; replace HS := Lib.hid hz; clear hz; try go_wp2_with fail))
  refine (HJ.out _).mono ?_
  rintro e w6 ⟨rfl, h6⟩
  replace HS := Lib.hid (HS.out.step h6)
  go_wp2_with fail
  go_ret
  exact ⟨rfl, HS.out⟩
/-- the payload and the tag whose digits a text has -/
def okT (t : List UInt8) : Bool := Dig.unB t && decide (32 ≤ (Dig.unS t).size) && decide ((Dig.unS t).size % 16 = 0)
def selC (t : List UInt8) : ByteArray := if okT t then (Dig.unS t).extract 0 ((Dig.unS t).size - 16) else ⟨#[]⟩
def selT (t : List UInt8) : ByteArray := if okT t then (Dig.unS t).extract ((Dig.unS t).size - 16) (Dig.unS t).size else ⟨#[]⟩
def selE (t : List UInt8) : Int := if okT t then 0 else 5
def selV (t : List UInt8) : Value := .tuple #[.string (selC t), .string (selT t), .int .i64 (selE t)]
set_option maxRecDepth 100000 in
theorem sel_b1 (t S : ByteArray) (c1 : Mak 90 #[.string t] (.tuple #[.string S, .bool false]))  : Mak 62 #[.string t] (.tuple #[.string ⟨#[]⟩, .string ⟨#[]⟩, .int .i64 5]) := by
  intro w
  have HS := Lib.hid (Since.refl w)
  go_enter Tryz.func62, Tryz.ntmps62
  go_wp2_with fail
  refine (c1.calls0) ?_
  intro w1 h1
  replace HS := Lib.hid (HS.out.step (by first | exact h1 | exact (Since.alloc (Since.refl _) _).step h1 | exact (Since.alloc (Since.alloc (Since.refl _) _) _).step h1 | exact (Since.drew (Since.refl _)).step h1 | exact (Since.alloc (Since.alloc (Since.alloc (Since.refl _) _) _) _).step h1))
  clear h1
  go_wp2_with fail
  go_ret3
  exact ⟨rfl, HS.out⟩
set_option maxRecDepth 100000 in
theorem sel_b2 (t S : ByteArray) (c1 : Mak 90 #[.string t] (.tuple #[.string S, .bool true])) (h : decide ((S.size : Int) < 32) = true) : Mak 62 #[.string t] (.tuple #[.string ⟨#[]⟩, .string ⟨#[]⟩, .int .i64 5]) := by
  intro w
  have HS := Lib.hid (Since.refl w)
  go_enter Tryz.func62, Tryz.ntmps62
  go_wp2_with fail
  refine (c1.calls0) ?_
  intro w1 h1
  replace HS := Lib.hid (HS.out.step (by first | exact h1 | exact (Since.alloc (Since.refl _) _).step h1 | exact (Since.alloc (Since.alloc (Since.refl _) _) _).step h1 | exact (Since.drew (Since.refl _)).step h1 | exact (Since.alloc (Since.alloc (Since.alloc (Since.refl _) _) _) _).step h1))
  clear h1
  go_wp2_with fail
  go_ret3
  exact ⟨rfl, HS.out⟩
set_option maxRecDepth 100000 in
theorem sel_b3 (t S : ByteArray) (c1 : Mak 90 #[.string t] (.tuple #[.string S, .bool true])) (h : decide ((S.size : Int) < 32) = false) (h2 : ((S.size : Int) % 16 != 0) = true) (_h3 : ((S.size : Int).tmod 16 != 0) = true) : Mak 62 #[.string t] (.tuple #[.string ⟨#[]⟩, .string ⟨#[]⟩, .int .i64 5]) := by
  intro w
  have HS := Lib.hid (Since.refl w)
  go_enter Tryz.func62, Tryz.ntmps62
  go_wp2_with fail
  refine (c1.calls0) ?_
  intro w1 h1
  replace HS := Lib.hid (HS.out.step (by first | exact h1 | exact (Since.alloc (Since.refl _) _).step h1 | exact (Since.alloc (Since.alloc (Since.refl _) _) _).step h1 | exact (Since.drew (Since.refl _)).step h1 | exact (Since.alloc (Since.alloc (Since.alloc (Since.refl _) _) _) _).step h1))
  clear h1
  go_wp2_with fail
  go_ret3
  exact ⟨rfl, HS.out⟩
set_option maxRecDepth 100000 in
theorem sel_ok (t S : ByteArray) (c1 : Mak 90 #[.string t] (.tuple #[.string S, .bool true])) (hs : S.size ≤ 1000000) (h32 : 32 ≤ S.size) (h16 : S.size % 16 = 0) : Mak 62 #[.string t] (.tuple #[.string (S.extract 0 (S.size - 16)), .string (S.extract (S.size - 16) S.size), .int .i64 0]) := by
  intro w
  have HS := Lib.hid (Since.refl w)
  have h : decide ((S.size : Int) < 32) = false := decide_eq_false (by omega)
  have h2 : ((S.size : Int) % 16 != 0) = false := bne_eq_false_iff_eq.2 (by omega)
  have h3 : ((S.size : Int).tmod 16 != 0) = false := bne_eq_false_iff_eq.2 (by rw [Int.tmod_eq_emod_of_nonneg (by omega)]; omega)
  obtain ⟨m, hm⟩ : ∃ m : Nat, m = S.size - 16 := ⟨_, rfl⟩
  have e1 : IntKind.i64.wrap ((S.size : Int) - 16) = (m : Int) := by rw [IntWalk.i64_in _ (by omega)]; omega
  have e2 : (S.size : Int) - 16 = (m : Int) := by omega
  have i1 : (0 : Int) ≤ (m : Int) := by omega
  have i2 : (m : Int) ≤ (S.size : Int) := by omega
  rw [← hm]
  clear hm h16
  go_enter Tryz.func62, Tryz.ntmps62
  go_wp2_with fail
  refine (c1.calls0) ?_
  intro w1 h1
  replace HS := Lib.hid (HS.out.step (by first | exact h1 | exact (Since.alloc (Since.refl _) _).step h1 | exact (Since.alloc (Since.alloc (Since.refl _) _) _).step h1 | exact (Since.drew (Since.refl _)).step h1 | exact (Since.alloc (Since.alloc (Since.alloc (Since.refl _) _) _) _).step h1))
  clear h1
  go_wp2_with fail
  go_quiet (fail)
  replace HS := Lib.hid (HS.out.step (belowN _ nq))
  go_wp2_with fail
  go_ret3
  exact ⟨rfl, HS.out⟩
theorem sealed_mak (t : ByteArray) (hm : t.size ≤ 1000000) : Mak 62 #[.string t] (selV t.data.toList) := by
  have c1 := unhex_all t hm
  have hl := unS_le t.data.toList
  have htl : t.data.toList.length = t.size := rfl
  unfold selV selC selT selE
  by_cases hok : okT t.data.toList = true
  · rw [if_pos hok, if_pos hok, if_pos hok]
    unfold okT at hok
    simp only [Bool.and_eq_true, decide_eq_true_eq] at hok
    obtain ⟨⟨h1, h2⟩, h3⟩ := hok
    rw [h1] at c1
    exact sel_ok t _ c1 (by omega) h2 h3
  · rw [if_neg hok, if_neg hok, if_neg hok]
    cases hb : Dig.unB t.data.toList with
    | false => rw [hb] at c1; exact sel_b1 t _ c1
    | true =>
      rw [hb] at c1
      by_cases h2 : (Dig.unS t.data.toList).size < 32
      · exact sel_b2 t _ c1 (decide_eq_true (by omega))
      · have h3 : (Dig.unS t.data.toList).size % 16 ≠ 0 := fun h => hok (by unfold okT; rw [hb, decide_eq_true (by omega), decide_eq_true h]; rfl)
        exact sel_b3 t _ c1 (decide_eq_false (by omega)) (bne_iff_ne.2 (by omega)) (bne_iff_ne.2 (by rw [Int.tmod_eq_emod_of_nonneg (by omega)]; omega))
/-- the header with which a text begins, if it tells the text's length -/
def begE (s : ByteArray) : Int := if s.size = 0 then 3 else if 9999 < s.size then 4 else if Header.decE s ≠ 0 then Header.decE s else if Dig.numD (s.extract 1 5).data.toList ≠ s.size then 5 else 0
def begV (s : ByteArray) : Array Value := if begE s = 0 then Header.decV s else Z7
set_option maxRecDepth 100000 in
theorem beg_early (s : ByteArray) (E : Int) (h : (s.size = 0 ∧ E = 3) ∨ (9999 < s.size ∧ E = 4)) : KMk KH 59 #[.string s] (.tuple #[.agg Z7, .int .i64 E]) := by
  intro w hT
  have HB := Lib.hid (heap_alloc_new w (.cells Z7 61))
  unfold Z7 at HB
  rcases h with ⟨h, rfl⟩ | ⟨h, rfl⟩
  · obtain rfl : s = ⟨#[]⟩ := by apply ba_ext; exact List.length_eq_zero_iff.1 h
    clear h
    go_enter Tryz.func59, Tryz.ntmps59
    go_wp2_with (refine wpList_store_row rfl 61 _ _ rfl w.heap.size (C7 0 0 ⟨#[]⟩ ⟨#[]⟩ ⟨#[]⟩ ⟨#[]⟩ ⟨#[]⟩) (by rfl) (by rfl) _ _ HB.out (c7_info _ _ _ _ _ _ _) rfl (c7_one _ _ _ _ _ _ _) ?_)
    exact bodyPost_ret (v := .tuple #[.agg Z7, .int .i64 3]) (results_cell_tmp2 Tryz.results59 _ _ _ _ _ _ _ _ rfl rfl (setRow_heap _ _ _ _ _ _ HB.out) Tryz.underlying61 rfl (c7_info _ _ _ _ _ _ _)) rfl ⟨rfl, below_setRow ((Since.refl w).alloc _) (Nat.le_refl _) _⟩
  · have b1 := some_bytes s (by omega)
    have b2 := some_bytes_f s (by omega)
    have t1 : decide ((9999 : Int) < (s.size : Int)) = true := decide_eq_true (by omega)
    clear h
    go_enter Tryz.func59, Tryz.ntmps59
    go_wp2_with (refine wpList_store_row rfl 61 _ _ rfl w.heap.size (C7 0 0 ⟨#[]⟩ ⟨#[]⟩ ⟨#[]⟩ ⟨#[]⟩ ⟨#[]⟩) (by rfl) (by rfl) _ _ HB.out (c7_info _ _ _ _ _ _ _) rfl (c7_one _ _ _ _ _ _ _) ?_)
    exact bodyPost_ret (v := .tuple #[.agg Z7, .int .i64 4]) (results_cell_tmp2 Tryz.results59 _ _ _ _ _ _ _ _ rfl rfl (setRow_heap _ _ _ _ _ _ HB.out) Tryz.underlying61 rfl (c7_info _ _ _ _ _ _ _)) rfl ⟨rfl, below_setRow ((Since.refl w).alloc _) (Nat.le_refl _) _⟩
theorem lt_alloc (w : World) (o : Obj) : w.heap.size < (w.alloc o).heap.size := by simp
set_option maxRecDepth 100000 in
theorem beg_err (s : ByteArray) (h0 : 0 < s.size) (h9 : s.size ≤ 9999) (n k E : Int) (l u m v e : ByteArray) (hE : (E == 0) = false) (c1 : KMk KH 87 #[.string s] (.tuple #[.agg #[.int .i64 n, .string l, .int .i64 k, .string u, .string m, .string v, .string e], .int .i64 E])) : KMk KH 59 #[.string s] (.tuple #[.agg (C7 n k l u m v e), .int .i64 E]) := by
  intro w hT
  have hr : Hid (HR w w.heap.size Z7 61 (w.alloc (.cells Z7 61))) := Lib.hid ⟨heap_alloc_new w _⟩
  have HS : Hid (Since w (w.alloc (.cells Z7 61))) := Lib.hid ((Since.refl w).alloc _)
  have HT : Hid (KH (w.alloc (.cells Z7 61))) := Lib.hid (Kp.keep hT ((Below.refl _ w).alloc (Nat.le_refl _) _))
  unfold Z7 at hr HS HT
  have b1 := some_bytes s (by omega)
  have b2 := some_bytes_f s (by omega)
  have t1 : decide ((9999 : Int) < (s.size : Int)) = false := decide_eq_false (by omega)
  clear hT
  go_enter Tryz.func59, Tryz.ntmps59
  go_wp2_with fail
  refine (c1.calls0 HT.out) ?_
  intro w1 h1
  replace hr := Lib.hid (hr.out.step (by first | exact h1 | exact (Since.alloc (Since.refl _) _).step h1 | exact (Since.alloc (Since.alloc (Since.refl _) _) _).step h1 | exact (Since.drew (Since.refl _)).step h1 | exact (Since.alloc (Since.alloc (Since.alloc (Since.refl _) _) _) _).step h1))
  replace HS := Lib.hid (HS.out.step (by first | exact h1 | exact (Since.alloc (Since.refl _) _).step h1 | exact (Since.alloc (Since.alloc (Since.refl _) _) _).step h1 | exact (Since.drew (Since.refl _)).step h1 | exact (Since.alloc (Since.alloc (Since.alloc (Since.refl _) _) _) _).step h1))
  clear h1
  have hr2 : Hid (HR w w.heap.size #[.int .i64 0, .string ⟨#[]⟩, .int .i64 0, .string ⟨#[]⟩, .string ⟨#[]⟩, .string ⟨#[]⟩, .string ⟨#[]⟩] 61 (w1.alloc (.cells #[.int .i64 n, .string l, .int .i64 k, .string u, .string m, .string v, .string e] 61))) := Lib.hid (hr_old hr.out _)
  have HS2 := Lib.hid (HS.out.alloc (.cells #[.int .i64 n, .string l, .int .i64 k, .string u, .string m, .string v, .string e] 61))
  clear hr HS HT
  go_wp2_with (refine wpList_store_row rfl 61 _ _ rfl w.heap.size (C7 n k l u m v e) (by rfl) (by rfl) _ _ hr2.out.row (c7_info _ _ _ _ _ _ _) rfl (c7_one _ _ _ _ _ _ _) ?_)
  exact bodyPost_ret (v := .tuple #[.agg (C7 n k l u m v e), .int .i64 E]) (results_cell_tmp2 Tryz.results59 _ _ _ _ _ _ _ _ rfl rfl (setRow_heap _ _ _ _ _ _ hr2.out.row) Tryz.underlying61 rfl (c7_info _ _ _ _ _ _ _)) rfl ⟨rfl, below_setRow HS2.out (Nat.le_refl _) _⟩
set_option maxRecDepth 100000 in
theorem beg_len (s : ByteArray) (h0 : 0 < s.size) (h9 : s.size ≤ 9999) (n k _E : Int) (l u m v e : ByteArray) (hE : (n == (s.size : Int)) = false) (c1 : KMk KH 87 #[.string s] (.tuple #[.agg #[.int .i64 n, .string l, .int .i64 k, .string u, .string m, .string v, .string e], .int .i64 0])) : KMk KH 59 #[.string s] (.tuple #[.agg (C7 0 0 ⟨#[]⟩ ⟨#[]⟩ ⟨#[]⟩ ⟨#[]⟩ ⟨#[]⟩), .int .i64 5]) := by
  intro w hT
  have hr : Hid (HR w w.heap.size Z7 61 (w.alloc (.cells Z7 61))) := Lib.hid ⟨heap_alloc_new w _⟩
  have HS : Hid (Since w (w.alloc (.cells Z7 61))) := Lib.hid ((Since.refl w).alloc _)
  have HT : Hid (KH (w.alloc (.cells Z7 61))) := Lib.hid (Kp.keep hT ((Below.refl _ w).alloc (Nat.le_refl _) _))
  unfold Z7 at hr HS HT
  have b1 := some_bytes s (by omega)
  have b2 := some_bytes_f s (by omega)
  have t1 : decide ((9999 : Int) < (s.size : Int)) = false := decide_eq_false (by omega)
  clear hT
  go_enter Tryz.func59, Tryz.ntmps59
  go_wp2_with fail
  refine (c1.calls0 HT.out) ?_
  intro w1 h1
  replace hr := Lib.hid (hr.out.step (by first | exact h1 | exact (Since.alloc (Since.refl _) _).step h1 | exact (Since.alloc (Since.alloc (Since.refl _) _) _).step h1 | exact (Since.drew (Since.refl _)).step h1 | exact (Since.alloc (Since.alloc (Since.alloc (Since.refl _) _) _) _).step h1))
  replace HS := Lib.hid (HS.out.step (by first | exact h1 | exact (Since.alloc (Since.refl _) _).step h1 | exact (Since.alloc (Since.alloc (Since.refl _) _) _).step h1 | exact (Since.drew (Since.refl _)).step h1 | exact (Since.alloc (Since.alloc (Since.alloc (Since.refl _) _) _) _).step h1))
  clear h1
  have hr2 : Hid (HR w w.heap.size #[.int .i64 0, .string ⟨#[]⟩, .int .i64 0, .string ⟨#[]⟩, .string ⟨#[]⟩, .string ⟨#[]⟩, .string ⟨#[]⟩] 61 (w1.alloc (.cells #[.int .i64 n, .string l, .int .i64 k, .string u, .string m, .string v, .string e] 61))) := Lib.hid (hr_old hr.out _)
  have HS2 := Lib.hid (HS.out.alloc (.cells #[.int .i64 n, .string l, .int .i64 k, .string u, .string m, .string v, .string e] 61))
  clear hr HS HT
  go_wp2_with (refine wpList_store_row rfl 61 _ _ rfl w.heap.size (C7 0 0 ⟨#[]⟩ ⟨#[]⟩ ⟨#[]⟩ ⟨#[]⟩ ⟨#[]⟩) (by rfl) (by rfl) _ _ hr2.out.row (c7_info _ _ _ _ _ _ _) rfl (c7_one _ _ _ _ _ _ _) ?_)
  exact bodyPost_ret (v := .tuple #[.agg (C7 0 0 ⟨#[]⟩ ⟨#[]⟩ ⟨#[]⟩ ⟨#[]⟩ ⟨#[]⟩), .int .i64 5]) (results_cell_tmp2 Tryz.results59 _ _ _ _ _ _ _ _ rfl rfl (setRow_heap _ _ _ _ _ _ hr2.out.row) Tryz.underlying61 rfl (c7_info _ _ _ _ _ _ _)) rfl ⟨rfl, below_setRow HS2.out (Nat.le_refl _) _⟩
set_option maxRecDepth 100000 in
theorem beg_ok (s : ByteArray) (h0 : 0 < s.size) (h9 : s.size ≤ 9999) (n k _E : Int) (l u m v e : ByteArray) (hE : (n == (s.size : Int)) = true) (c1 : KMk KH 87 #[.string s] (.tuple #[.agg #[.int .i64 n, .string l, .int .i64 k, .string u, .string m, .string v, .string e], .int .i64 0])) : KMk KH 59 #[.string s] (.tuple #[.agg (C7 n k l u m v e), .int .i64 0]) := by
  intro w hT
  have hr : Hid (HR w w.heap.size Z7 61 (w.alloc (.cells Z7 61))) := Lib.hid ⟨heap_alloc_new w _⟩
  have HS : Hid (Since w (w.alloc (.cells Z7 61))) := Lib.hid ((Since.refl w).alloc _)
  have HT : Hid (KH (w.alloc (.cells Z7 61))) := Lib.hid (Kp.keep hT ((Below.refl _ w).alloc (Nat.le_refl _) _))
  unfold Z7 at hr HS HT
  have b1 := some_bytes s (by omega)
  have b2 := some_bytes_f s (by omega)
  have t1 : decide ((9999 : Int) < (s.size : Int)) = false := decide_eq_false (by omega)
  clear hT
  go_enter Tryz.func59, Tryz.ntmps59
  go_wp2_with fail
  refine (c1.calls0 HT.out) ?_
  intro w1 h1
  replace hr := Lib.hid (hr.out.step (by first | exact h1 | exact (Since.alloc (Since.refl _) _).step h1 | exact (Since.alloc (Since.alloc (Since.refl _) _) _).step h1 | exact (Since.drew (Since.refl _)).step h1 | exact (Since.alloc (Since.alloc (Since.alloc (Since.refl _) _) _) _).step h1))
  replace HS := Lib.hid (HS.out.step (by first | exact h1 | exact (Since.alloc (Since.refl _) _).step h1 | exact (Since.alloc (Since.alloc (Since.refl _) _) _).step h1 | exact (Since.drew (Since.refl _)).step h1 | exact (Since.alloc (Since.alloc (Since.alloc (Since.refl _) _) _) _).step h1))
  clear h1
  have hr2 : Hid (HR w w.heap.size #[.int .i64 0, .string ⟨#[]⟩, .int .i64 0, .string ⟨#[]⟩, .string ⟨#[]⟩, .string ⟨#[]⟩, .string ⟨#[]⟩] 61 (w1.alloc (.cells #[.int .i64 n, .string l, .int .i64 k, .string u, .string m, .string v, .string e] 61))) := Lib.hid (hr_old hr.out _)
  have HS2 := Lib.hid (HS.out.alloc (.cells #[.int .i64 n, .string l, .int .i64 k, .string u, .string m, .string v, .string e] 61))
  clear hr HS HT
  go_wp2_with (refine wpList_store_row rfl 61 _ _ rfl w.heap.size (C7 n k l u m v e) (by rfl) (by rfl) _ _ hr2.out.row (c7_info _ _ _ _ _ _ _) rfl (c7_one _ _ _ _ _ _ _) ?_)
  exact bodyPost_ret (v := .tuple #[.agg (C7 n k l u m v e), .int .i64 0]) (results_cell_tmp2 Tryz.results59 _ _ _ _ _ _ _ _ rfl rfl (setRow_heap _ _ _ _ _ _ hr2.out.row) Tryz.underlying61 rfl (c7_info _ _ _ _ _ _ _)) rfl ⟨rfl, below_setRow HS2.out (Nat.le_refl _) _⟩
theorem begin_k (s : ByteArray) (hm : s.size ≤ 1000000) : KMk KH 59 #[.string s] (.tuple #[.agg (begV s), .int .i64 (begE s)]) := by
  unfold begV
  by_cases h0 : s.size = 0
  · have e : begE s = 3 := if_pos h0
    rw [e, if_neg (by decide)]
    exact beg_early s 3 (Or.inl ⟨h0, rfl⟩)
  by_cases h9 : 9999 < s.size
  · have e : begE s = 4 := by unfold begE; rw [if_neg h0, if_pos h9]
    rw [e, if_neg (by decide)]
    exact beg_early s 4 (Or.inr ⟨h9, rfl⟩)
  have c1 := dec_any s hm
  rcases dec_cases s with ⟨hE, hV⟩ | ⟨hE, hF, hk⟩
  · have e : begE s = Header.decE s := by unfold begE; rw [if_neg h0, if_neg h9, if_pos hE]
    rw [e, if_neg hE]
    rw [hV] at c1
    exact beg_err s (by omega) (by omega) 0 0 _ _ _ _ _ _ (beq_eq_false_iff_ne.2 hE) c1
  · have hv : Header.decV s = C7 (Dig.numD (s.extract 1 5).data.toList : Int) (Dig.numD (s.extract 12 14).data.toList : Int) (s.extract 7 8) (s.extract 5 7) (s.extract 8 9) (s.extract 9 11) (s.extract 11 12) := if_pos ⟨hF, hk⟩
    rw [hv, hE] at c1
    by_cases hn : Dig.numD (s.extract 1 5).data.toList = s.size
    · have e : begE s = 0 := by unfold begE; rw [if_neg h0, if_neg h9, if_neg (fun h => h hE), if_neg (fun h => h hn)]
      rw [e, if_pos rfl, hv]
      exact beg_ok s (by omega) (by omega) _ _ 0 _ _ _ _ _ (by rw [hn]; exact beq_self_eq_true _) c1
    · have e : begE s = 5 := by unfold begE; rw [if_neg h0, if_neg h9, if_neg (fun h => h hE), if_pos hn]
      rw [e, if_neg (by decide)]
      exact beg_len s (by omega) (by omega) _ _ 0 _ _ _ _ _ (beq_eq_false_iff_ne.2 (by omega)) c1
end Frame
end Go.Proofs.YtapjmbjoklppnaaGreatDoor
