/- Joined texts. -/
-- PACK: YtddlaafpianjbaaGreatDoorFrame YtddlaafpianjbaaGreatDoorFrame2 YtddlaafpianjbaaGreatDoorFrame3 YtddlaafpianjbaaGreatDoorFrame4 YtddlaafpianjbaaGreatDoorFrameM YtddlaafpianjbaaGreatDoorFrameAw YtddlaafpianjbaaGreatDoorFrameTop YtddlaafpianjbaaGreatDoorFrameAwk
import Derived.Test.YtddlaafpianjbaaGreatDoorBb31
import Derived.Test.YtddlaafpianjbaaGreatDoorBb38
import Derived.Test.YtddlaafpianjbaaGreatDoorBb42
import Derived.BigQuiet
import Derived.Deep.QuietTactic
import Derived.Test.YtddlaafpianjbaaGreatDoorBb17
import Derived.Test.YtddlaafpianjbaaGreatDoorBb22
import Derived.Deep.RegionWith
import Derived.Deep.Heap
import Derived.StillTailTactics
import Derived.StillTactics
import Derived.Test.YtddlaafpianjbaaGreatDoorBb43

/- Package frame: Top, Join, the payload's and the tag's digits. -/
namespace Go.Proofs.YtddlaafpianjbaaGreatDoor
open Go.RowKit
namespace Frame
open Att Templ Header
/-- which numbers of bytes of a payload may be -/
def badN (l : ByteArray) (n : Int) : Bool := decide (Kind.mostN l.data.toList = 0) || decide (n < 16) || decide (4096 < n) || decide (n % 16 ≠ 0)
def pk (L : List A2) : ByteArray := Opt.packX (oL L)
def topN (L : List A2) (n : Int) : Int := 16 + ((pk L).size : Int) + 2 * n + 32
def topE (l u m v e : ByteArray) (L : List A2) (n : Int) : Int := if badN l n then 1 else if Table.okB u.data.toList m.data.toList v.data.toList e.data.toList l.data.toList = false then 12 else if oE L ≠ 0 then oE L else if Opt.packE (oL L) ≠ 0 then 4 else if 9999 < topN L n then 4 else 0
def topX (l u m v e : ByteArray) (L : List A2) (n : Int) : ByteArray := if topE l u m v e L n = 0 then encX (topN L n) (Opt.packN (oL L)) l u m v e ++ pk L else ⟨#[]⟩
/-- a call that is handed attributes at the third place -/
def RdT (l u m v e : ByteArray) (L : List A2) (n : Int) (V : Value) : Prop := ∀ w x, KH w → AttsS w x L → Calls Tryz.prog 54 #[.string l, .agg #[.string u, .string m, .string v, .string e], x, .int .i64 n] w fun z w' => z = .returned V ∧ Below w.heap.size w w'
set_option maxRecDepth 100000 in
theorem RdT.calls0 {l u m v e : ByteArray} {L : List A2} {n : Int} {V : Value} (h : RdT l u m v e L n V) {w : World} {x : Value} (hT : KH w) (hx : AttsS w x L) {R : Ending → World → Prop} (k : ∀ w', Since w w' → R (.returned V) w') : Calls Tryz.prog 54 #[.string l, .agg #[.string u, .string m, .string v, .string e], x, .int .i64 n] w R :=
  (h w x hT hx).mono fun _ _ ⟨he, hb⟩ => by subst he; exact k _ hb
set_option maxRecDepth 100000 in
theorem top_b1 (l u m v e : ByteArray) (L : List A2) (n : Int) (X : Int) (c1 : KMk KH 84 #[.string l] (.int .i64 X)) (h : (X == 0) = true) : RdT l u m v e L n (.tuple #[.string ⟨#[]⟩, .int .i64 1]) := by
  intro w x hT hx
  have hp := Lib.hid (hb_new w KH hT #[.string u, .string m, .string v, .string e] 24)
  have HS := Lib.hid hp.out.since
  have HX : Hid (AttsS (w.alloc (.cells #[.string u, .string m, .string v, .string e] 24)) x L) := Lib.hid (hx.since ((Since.refl w).alloc _))
  obtain ⟨_, m0, m1, m2, m3⟩ := hb4 hp
  clear hx
  go_enter Tryz.func54, Tryz.ntmps54
  go_wp2_with fail
  refine (c1.calls0 hp.out.tabs) ?_
  intro w1 h1
  replace hp := Lib.hid (hp.out.step (by first | exact h1 | exact (Since.alloc (Since.refl _) _).step h1 | exact (Since.alloc (Since.alloc (Since.refl _) _) _).step h1 | exact (Since.drew (Since.refl _)).step h1 | exact (Since.alloc (Since.alloc (Since.alloc (Since.refl _) _) _) _).step h1))
  replace HX := Lib.hid (HX.out.since (by first | exact h1 | exact (Since.alloc (Since.refl _) _).step h1 | exact (Since.alloc (Since.alloc (Since.refl _) _) _).step h1 | exact (Since.drew (Since.refl _)).step h1 | exact (Since.alloc (Since.alloc (Since.alloc (Since.refl _) _) _) _).step h1))
  replace HS := Lib.hid (HS.out.step (by first | exact h1 | exact (Since.alloc (Since.refl _) _).step h1 | exact (Since.alloc (Since.alloc (Since.refl _) _) _).step h1 | exact (Since.drew (Since.refl _)).step h1 | exact (Since.alloc (Since.alloc (Since.alloc (Since.refl _) _) _) _).step h1))
  clear h1
  go_wp2_with fail
  go_ret2
  exact ⟨rfl, HS.out⟩
set_option maxRecDepth 100000 in
theorem top_b2 (l u m v e : ByteArray) (L : List A2) (n : Int) (X : Int) (c1 : KMk KH 84 #[.string l] (.int .i64 X)) (h : (X == 0) = false) (h2 : decide (n < 16) = true) : RdT l u m v e L n (.tuple #[.string ⟨#[]⟩, .int .i64 1]) := by
  intro w x hT hx
  have hp := Lib.hid (hb_new w KH hT #[.string u, .string m, .string v, .string e] 24)
  have HS := Lib.hid hp.out.since
  have HX : Hid (AttsS (w.alloc (.cells #[.string u, .string m, .string v, .string e] 24)) x L) := Lib.hid (hx.since ((Since.refl w).alloc _))
  obtain ⟨_, m0, m1, m2, m3⟩ := hb4 hp
  clear hx
  go_enter Tryz.func54, Tryz.ntmps54
  go_wp2_with fail
  refine (c1.calls0 hp.out.tabs) ?_
  intro w1 h1
  replace hp := Lib.hid (hp.out.step (by first | exact h1 | exact (Since.alloc (Since.refl _) _).step h1 | exact (Since.alloc (Since.alloc (Since.refl _) _) _).step h1 | exact (Since.drew (Since.refl _)).step h1 | exact (Since.alloc (Since.alloc (Since.alloc (Since.refl _) _) _) _).step h1))
  replace HX := Lib.hid (HX.out.since (by first | exact h1 | exact (Since.alloc (Since.refl _) _).step h1 | exact (Since.alloc (Since.alloc (Since.refl _) _) _).step h1 | exact (Since.drew (Since.refl _)).step h1 | exact (Since.alloc (Since.alloc (Since.alloc (Since.refl _) _) _) _).step h1))
  replace HS := Lib.hid (HS.out.step (by first | exact h1 | exact (Since.alloc (Since.refl _) _).step h1 | exact (Since.alloc (Since.alloc (Since.refl _) _) _).step h1 | exact (Since.drew (Since.refl _)).step h1 | exact (Since.alloc (Since.alloc (Since.alloc (Since.refl _) _) _) _).step h1))
  clear h1
  go_wp2_with fail
  go_ret2
  exact ⟨rfl, HS.out⟩
set_option maxRecDepth 100000 in
theorem top_b3 (l u m v e : ByteArray) (L : List A2) (n : Int) (X : Int) (c1 : KMk KH 84 #[.string l] (.int .i64 X)) (h : (X == 0) = false) (h2 : decide (n < 16) = false) (h3 : decide (4096 < n) = true) : RdT l u m v e L n (.tuple #[.string ⟨#[]⟩, .int .i64 1]) := by
  intro w x hT hx
  have hp := Lib.hid (hb_new w KH hT #[.string u, .string m, .string v, .string e] 24)
  have HS := Lib.hid hp.out.since
  have HX : Hid (AttsS (w.alloc (.cells #[.string u, .string m, .string v, .string e] 24)) x L) := Lib.hid (hx.since ((Since.refl w).alloc _))
  obtain ⟨_, m0, m1, m2, m3⟩ := hb4 hp
  clear hx
  go_enter Tryz.func54, Tryz.ntmps54
  go_wp2_with fail
  refine (c1.calls0 hp.out.tabs) ?_
  intro w1 h1
  replace hp := Lib.hid (hp.out.step (by first | exact h1 | exact (Since.alloc (Since.refl _) _).step h1 | exact (Since.alloc (Since.alloc (Since.refl _) _) _).step h1 | exact (Since.drew (Since.refl _)).step h1 | exact (Since.alloc (Since.alloc (Since.alloc (Since.refl _) _) _) _).step h1))
  replace HX := Lib.hid (HX.out.since (by first | exact h1 | exact (Since.alloc (Since.refl _) _).step h1 | exact (Since.alloc (Since.alloc (Since.refl _) _) _).step h1 | exact (Since.drew (Since.refl _)).step h1 | exact (Since.alloc (Since.alloc (Since.alloc (Since.refl _) _) _) _).step h1))
  replace HS := Lib.hid (HS.out.step (by first | exact h1 | exact (Since.alloc (Since.refl _) _).step h1 | exact (Since.alloc (Since.alloc (Since.refl _) _) _).step h1 | exact (Since.drew (Since.refl _)).step h1 | exact (Since.alloc (Since.alloc (Since.alloc (Since.refl _) _) _) _).step h1))
  clear h1
  go_wp2_with fail
  go_ret2
  exact ⟨rfl, HS.out⟩
set_option maxRecDepth 100000 in
theorem top_b4 (l u m v e : ByteArray) (L : List A2) (n : Int) (X : Int) (c1 : KMk KH 84 #[.string l] (.int .i64 X)) (h : (X == 0) = false) (h2 : decide (n < 16) = false) (h3 : decide (4096 < n) = false) (h4 : (n.tmod 16 != 0) = true) : RdT l u m v e L n (.tuple #[.string ⟨#[]⟩, .int .i64 1]) := by
  intro w x hT hx
  have hp := Lib.hid (hb_new w KH hT #[.string u, .string m, .string v, .string e] 24)
  have HS := Lib.hid hp.out.since
  have HX : Hid (AttsS (w.alloc (.cells #[.string u, .string m, .string v, .string e] 24)) x L) := Lib.hid (hx.since ((Since.refl w).alloc _))
  obtain ⟨_, m0, m1, m2, m3⟩ := hb4 hp
  clear hx
  go_enter Tryz.func54, Tryz.ntmps54
  go_wp2_with fail
  refine (c1.calls0 hp.out.tabs) ?_
  intro w1 h1
  replace hp := Lib.hid (hp.out.step (by first | exact h1 | exact (Since.alloc (Since.refl _) _).step h1 | exact (Since.alloc (Since.alloc (Since.refl _) _) _).step h1 | exact (Since.drew (Since.refl _)).step h1 | exact (Since.alloc (Since.alloc (Since.alloc (Since.refl _) _) _) _).step h1))
  replace HX := Lib.hid (HX.out.since (by first | exact h1 | exact (Since.alloc (Since.refl _) _).step h1 | exact (Since.alloc (Since.alloc (Since.refl _) _) _).step h1 | exact (Since.drew (Since.refl _)).step h1 | exact (Since.alloc (Since.alloc (Since.alloc (Since.refl _) _) _) _).step h1))
  replace HS := Lib.hid (HS.out.step (by first | exact h1 | exact (Since.alloc (Since.refl _) _).step h1 | exact (Since.alloc (Since.alloc (Since.refl _) _) _).step h1 | exact (Since.drew (Since.refl _)).step h1 | exact (Since.alloc (Since.alloc (Since.alloc (Since.refl _) _) _) _).step h1))
  clear h1
  go_wp2_with fail
  go_ret2
  exact ⟨rfl, HS.out⟩
set_option maxRecDepth 100000 in
theorem top_b5 (l u m v e : ByteArray) (L : List A2) (n : Int) (X : Int) (c1 : KMk KH 84 #[.string l] (.int .i64 X)) (h : (X == 0) = false) (h2 : decide (n < 16) = false) (h3 : decide (4096 < n) = false) (h4 : (n.tmod 16 != 0) = false)
    (c2 : KMk KH 52 #[.agg #[.string u, .string m, .string v, .string e], .string l] (.int .i64 12)) : RdT l u m v e L n (.tuple #[.string ⟨#[]⟩, .int .i64 12]) := by
  intro w x hT hx
  have hp := Lib.hid (hb_new w KH hT #[.string u, .string m, .string v, .string e] 24)
  have HS := Lib.hid hp.out.since
  have HX : Hid (AttsS (w.alloc (.cells #[.string u, .string m, .string v, .string e] 24)) x L) := Lib.hid (hx.since ((Since.refl w).alloc _))
  obtain ⟨_, m0, m1, m2, m3⟩ := hb4 hp
  clear hx
  go_enter Tryz.func54, Tryz.ntmps54
  go_wp2_with fail
  clear m0 m1 m2 m3
  refine (c1.calls0 hp.out.tabs) ?_
  intro w1 h1
  replace hp := Lib.hid (hp.out.step (by first | exact h1 | exact (Since.alloc (Since.refl _) _).step h1 | exact (Since.alloc (Since.alloc (Since.refl _) _) _).step h1 | exact (Since.drew (Since.refl _)).step h1 | exact (Since.alloc (Since.alloc (Since.alloc (Since.refl _) _) _) _).step h1))
  replace HX := Lib.hid (HX.out.since (by first | exact h1 | exact (Since.alloc (Since.refl _) _).step h1 | exact (Since.alloc (Since.alloc (Since.refl _) _) _).step h1 | exact (Since.drew (Since.refl _)).step h1 | exact (Since.alloc (Since.alloc (Since.alloc (Since.refl _) _) _) _).step h1))
  replace HS := Lib.hid (HS.out.step (by first | exact h1 | exact (Since.alloc (Since.refl _) _).step h1 | exact (Since.alloc (Since.alloc (Since.refl _) _) _).step h1 | exact (Since.drew (Since.refl _)).step h1 | exact (Since.alloc (Since.alloc (Since.alloc (Since.refl _) _) _) _).step h1))
  clear h1
  obtain ⟨_, m0, m1, m2, m3⟩ := hb4 hp
  go_wp2_with fail
  refine (c2.calls0 hp.out.tabs) ?_
  intro w2 h2
  replace hp := Lib.hid (hp.out.step (by first | exact h2 | exact (Since.alloc (Since.refl _) _).step h2 | exact (Since.alloc (Since.alloc (Since.refl _) _) _).step h2 | exact (Since.drew (Since.refl _)).step h2 | exact (Since.alloc (Since.alloc (Since.alloc (Since.refl _) _) _) _).step h2))
  replace HX := Lib.hid (HX.out.since (by first | exact h2 | exact (Since.alloc (Since.refl _) _).step h2 | exact (Since.alloc (Since.alloc (Since.refl _) _) _).step h2 | exact (Since.drew (Since.refl _)).step h2 | exact (Since.alloc (Since.alloc (Since.alloc (Since.refl _) _) _) _).step h2))
  replace HS := Lib.hid (HS.out.step (by first | exact h2 | exact (Since.alloc (Since.refl _) _).step h2 | exact (Since.alloc (Since.alloc (Since.refl _) _) _).step h2 | exact (Since.drew (Since.refl _)).step h2 | exact (Since.alloc (Since.alloc (Since.alloc (Since.refl _) _) _) _).step h2))
  clear h2
  go_wp2_with fail
  go_ret2
  exact ⟨rfl, HS.out⟩
set_option maxRecDepth 100000 in
theorem top_b6 (l u m v e : ByteArray) (L : List A2) (n : Int) (hn : 16 ≤ n ∧ n ≤ 4096) (X : Int) (c1 : KMk KH 84 #[.string l] (.int .i64 X)) (h : (X == 0) = false) (hm : n % 16 = 0)
    (c2 : KMk KH 52 #[.agg #[.string u, .string m, .string v, .string e], .string l] (.int .i64 0)) (O : List Opt.P2) (E : Int) (c3 : MkP 97 L O E) (hE : (E == 0) = false) : RdT l u m v e L n (.tuple #[.string ⟨#[]⟩, .int .i64 E]) := by
  intro w x hT hx
  have t1 : decide (n < 16) = false := decide_eq_false (by omega)
  have t2 : decide (4096 < n) = false := decide_eq_false (by omega)
  have t3 : (n % 16 != 0) = false := bne_eq_false_iff_eq.2 hm
  have t4 : (n.tmod 16 != 0) = false := by rw [Int.tmod_eq_emod_of_nonneg (by omega)]; exact t3
  have hp := Lib.hid (hb_new w KH hT #[.string u, .string m, .string v, .string e] 24)
  have HS := Lib.hid hp.out.since
  have HX : Hid (AttsS (w.alloc (.cells #[.string u, .string m, .string v, .string e] 24)) x L) := Lib.hid (hx.since ((Since.refl w).alloc _))
  obtain ⟨_, m0, m1, m2, m3⟩ := hb4 hp
  clear hx
  go_enter Tryz.func54, Tryz.ntmps54
  go_wp2_with fail
  clear m0 m1 m2 m3
  refine (c1.calls0 hp.out.tabs) ?_
  intro w1 h1
  replace hp := Lib.hid (hp.out.step (by first | exact h1 | exact (Since.alloc (Since.refl _) _).step h1 | exact (Since.alloc (Since.alloc (Since.refl _) _) _).step h1 | exact (Since.drew (Since.refl _)).step h1 | exact (Since.alloc (Since.alloc (Since.alloc (Since.refl _) _) _) _).step h1))
  replace HX := Lib.hid (HX.out.since (by first | exact h1 | exact (Since.alloc (Since.refl _) _).step h1 | exact (Since.alloc (Since.alloc (Since.refl _) _) _).step h1 | exact (Since.drew (Since.refl _)).step h1 | exact (Since.alloc (Since.alloc (Since.alloc (Since.refl _) _) _) _).step h1))
  replace HS := Lib.hid (HS.out.step (by first | exact h1 | exact (Since.alloc (Since.refl _) _).step h1 | exact (Since.alloc (Since.alloc (Since.refl _) _) _).step h1 | exact (Since.drew (Since.refl _)).step h1 | exact (Since.alloc (Since.alloc (Since.alloc (Since.refl _) _) _) _).step h1))
  clear h1
  obtain ⟨_, m0, m1, m2, m3⟩ := hb4 hp
  go_wp2_with fail
  clear m0 m1 m2 m3
  refine (c2.calls0 hp.out.tabs) ?_
  intro w2 h2
  replace hp := Lib.hid (hp.out.step (by first | exact h2 | exact (Since.alloc (Since.refl _) _).step h2 | exact (Since.alloc (Since.alloc (Since.refl _) _) _).step h2 | exact (Since.drew (Since.refl _)).step h2 | exact (Since.alloc (Since.alloc (Since.alloc (Since.refl _) _) _) _).step h2))
  replace HX := Lib.hid (HX.out.since (by first | exact h2 | exact (Since.alloc (Since.refl _) _).step h2 | exact (Since.alloc (Since.alloc (Since.refl _) _) _).step h2 | exact (Since.drew (Since.refl _)).step h2 | exact (Since.alloc (Since.alloc (Since.alloc (Since.refl _) _) _) _).step h2))
  replace HS := Lib.hid (HS.out.step (by first | exact h2 | exact (Since.alloc (Since.refl _) _).step h2 | exact (Since.alloc (Since.alloc (Since.refl _) _) _).step h2 | exact (Since.drew (Since.refl _)).step h2 | exact (Since.alloc (Since.alloc (Since.alloc (Since.refl _) _) _) _).step h2))
  clear h2
  go_wp2_with fail
  refine (c3.calls0 HX.out) ?_
  intro v3 w3 hv3 h3
  have HV3 := Lib.hid hv3
  clear hv3
  replace hp := Lib.hid (hp.out.step (by first | exact h3 | exact (Since.alloc (Since.refl _) _).step h3 | exact (Since.alloc (Since.alloc (Since.refl _) _) _).step h3 | exact (Since.drew (Since.refl _)).step h3 | exact (Since.alloc (Since.alloc (Since.alloc (Since.refl _) _) _) _).step h3))
  replace HS := Lib.hid (HS.out.step (by first | exact h3 | exact (Since.alloc (Since.refl _) _).step h3 | exact (Since.alloc (Since.alloc (Since.refl _) _) _).step h3 | exact (Since.drew (Since.refl _)).step h3 | exact (Since.alloc (Since.alloc (Since.alloc (Since.refl _) _) _) _).step h3))
  clear h3
  go_wp2_with fail
  go_ret2
  exact ⟨rfl, HS.out⟩
set_option maxRecDepth 100000 in
theorem top_b8 (l u m v e : ByteArray) (L : List A2) (n : Int) (hn : 16 ≤ n ∧ n ≤ 4096) (X : Int) (c1 : KMk KH 84 #[.string l] (.int .i64 X)) (h : (X == 0) = false) (hm : n % 16 = 0)
    (c2 : KMk KH 52 #[.agg #[.string u, .string m, .string v, .string e], .string l] (.int .i64 0)) (O : List Opt.P2) (c3 : MkP 97 L O 0) (P : ByteArray) (hP : P.size ≤ 20000) (N : Int) (c4 : Opt.RdO 98 O (fun x => #[x]) (.tuple #[.string P, .int .i64 N, .int .i64 0]))
    (Z : Int) (hZ : 16 + (P.size : Int) + 2 * n + 32 = Z) (h9 : 9999 < Z) : RdT l u m v e L n (.tuple #[.string ⟨#[]⟩, .int .i64 4]) := by
  intro w x hT hx
  have t9 : decide (9999 < 16 + (P.size : Int) + 2 * n + 32) = true := decide_eq_true (by omega)
  clear hZ h9
  have t1 : decide (n < 16) = false := decide_eq_false (by omega)
  have t2 : decide (4096 < n) = false := decide_eq_false (by omega)
  have t3 : (n % 16 != 0) = false := bne_eq_false_iff_eq.2 hm
  have t4 : (n.tmod 16 != 0) = false := by rw [Int.tmod_eq_emod_of_nonneg (by omega)]; exact t3
  have hp := Lib.hid (hb_new w KH hT #[.string u, .string m, .string v, .string e] 24)
  have HS := Lib.hid hp.out.since
  have HX : Hid (AttsS (w.alloc (.cells #[.string u, .string m, .string v, .string e] 24)) x L) := Lib.hid (hx.since ((Since.refl w).alloc _))
  obtain ⟨_, m0, m1, m2, m3⟩ := hb4 hp
  clear hx
  go_enter Tryz.func54, Tryz.ntmps54
  go_wp2_with fail
  clear m0 m1 m2 m3
  refine (c1.calls0 hp.out.tabs) ?_
  intro w1 h1
  replace hp := Lib.hid (hp.out.step (by first | exact h1 | exact (Since.alloc (Since.refl _) _).step h1 | exact (Since.alloc (Since.alloc (Since.refl _) _) _).step h1 | exact (Since.drew (Since.refl _)).step h1 | exact (Since.alloc (Since.alloc (Since.alloc (Since.refl _) _) _) _).step h1))
  replace HX := Lib.hid (HX.out.since (by first | exact h1 | exact (Since.alloc (Since.refl _) _).step h1 | exact (Since.alloc (Since.alloc (Since.refl _) _) _).step h1 | exact (Since.drew (Since.refl _)).step h1 | exact (Since.alloc (Since.alloc (Since.alloc (Since.refl _) _) _) _).step h1))
  replace HS := Lib.hid (HS.out.step (by first | exact h1 | exact (Since.alloc (Since.refl _) _).step h1 | exact (Since.alloc (Since.alloc (Since.refl _) _) _).step h1 | exact (Since.drew (Since.refl _)).step h1 | exact (Since.alloc (Since.alloc (Since.alloc (Since.refl _) _) _) _).step h1))
  clear h1
  obtain ⟨_, m0, m1, m2, m3⟩ := hb4 hp
  go_wp2_with fail
  clear m0 m1 m2 m3
  refine (c2.calls0 hp.out.tabs) ?_
  intro w2 h2
  replace hp := Lib.hid (hp.out.step (by first | exact h2 | exact (Since.alloc (Since.refl _) _).step h2 | exact (Since.alloc (Since.alloc (Since.refl _) _) _).step h2 | exact (Since.drew (Since.refl _)).step h2 | exact (Since.alloc (Since.alloc (Since.alloc (Since.refl _) _) _) _).step h2))
  replace HX := Lib.hid (HX.out.since (by first | exact h2 | exact (Since.alloc (Since.refl _) _).step h2 | exact (Since.alloc (Since.alloc (Since.refl _) _) _).step h2 | exact (Since.drew (Since.refl _)).step h2 | exact (Since.alloc (Since.alloc (Since.alloc (Since.refl _) _) _) _).step h2))
  replace HS := Lib.hid (HS.out.step (by first | exact h2 | exact (Since.alloc (Since.refl _) _).step h2 | exact (Since.alloc (Since.alloc (Since.refl _) _) _).step h2 | exact (Since.drew (Since.refl _)).step h2 | exact (Since.alloc (Since.alloc (Since.alloc (Since.refl _) _) _) _).step h2))
  clear h2
  go_wp2_with fail
  refine (c3.calls0 HX.out) ?_
  intro v3 w3 hv3 h3
  have HV3 := Lib.hid hv3
  clear hv3
  replace hp := Lib.hid (hp.out.step (by first | exact h3 | exact (Since.alloc (Since.refl _) _).step h3 | exact (Since.alloc (Since.alloc (Since.refl _) _) _).step h3 | exact (Since.drew (Since.refl _)).step h3 | exact (Since.alloc (Since.alloc (Since.alloc (Since.refl _) _) _) _).step h3))
  replace HS := Lib.hid (HS.out.step (by first | exact h3 | exact (Since.alloc (Since.refl _) _).step h3 | exact (Since.alloc (Since.alloc (Since.refl _) _) _).step h3 | exact (Since.drew (Since.refl _)).step h3 | exact (Since.alloc (Since.alloc (Since.alloc (Since.refl _) _) _) _).step h3))
  clear h3
  go_wp2_with fail
  refine (c4.calls0 HV3.out) ?_
  intro w4 h4
  replace hp := Lib.hid (hp.out.step (by first | exact h4 | exact (Since.alloc (Since.refl _) _).step h4 | exact (Since.alloc (Since.alloc (Since.refl _) _) _).step h4 | exact (Since.drew (Since.refl _)).step h4 | exact (Since.alloc (Since.alloc (Since.alloc (Since.refl _) _) _) _).step h4))
  replace HS := Lib.hid (HS.out.step (by first | exact h4 | exact (Since.alloc (Since.refl _) _).step h4 | exact (Since.alloc (Since.alloc (Since.refl _) _) _).step h4 | exact (Since.drew (Since.refl _)).step h4 | exact (Since.alloc (Since.alloc (Since.alloc (Since.refl _) _) _) _).step h4))
  clear h4
  go_wp2_with fail
  go_ret2
  exact ⟨rfl, HS.out⟩
set_option maxRecDepth 100000 in
set_option maxHeartbeats 4000000 in
theorem top_ok (l u m v e : ByteArray) (L : List A2) (n : Int) (hn : 16 ≤ n ∧ n ≤ 4096) (X : Int) (c1 : KMk KH 84 #[.string l] (.int .i64 X)) (h : (X == 0) = false) (hm : n % 16 = 0)
    (c2 : KMk KH 52 #[.agg #[.string u, .string m, .string v, .string e], .string l] (.int .i64 0)) (O : List Opt.P2) (c3 : MkP 97 L O 0) (P : ByteArray) (hP : P.size ≤ 20000) (N : Int) (c4 : Opt.RdO 98 O (fun x => #[x]) (.tuple #[.string P, .int .i64 N, .int .i64 0]))
    (Z : Int) (hZ : 16 + (P.size : Int) + 2 * n + 32 = Z) (h9 : Z ≤ 9999) (H Y : ByteArray) (c5 : KMk KH 99 #[.agg #[.int .i64 Z, .string l, .int .i64 N, .string u, .string m, .string v, .string e]] (.tuple #[.string H, .int .i64 0])) (hY : H ++ P = Y) (hYs : Y.size ≤ 40000) : RdT l u m v e L n (.tuple #[.string Y, .int .i64 0]) := by
  intro w x hT hx
  have t9 : decide (9999 < 16 + (P.size : Int) + 2 * n + 32) = false := decide_eq_false (by omega)
  have HJ := Lib.hid (fun W => Oct.join_lit W [H, P] 2 rfl #[.string H, .string P] rfl Y (by apply ba_ext; rw [list_bs, ← hY, app_list]; simp [Oct.cat]) (by omega) (by decide))
  rw [← hZ] at c5
  clear hZ h9 hY
  have t1 : decide (n < 16) = false := decide_eq_false (by omega)
  have t2 : decide (4096 < n) = false := decide_eq_false (by omega)
  have t3 : (n % 16 != 0) = false := bne_eq_false_iff_eq.2 hm
  have t4 : (n.tmod 16 != 0) = false := by rw [Int.tmod_eq_emod_of_nonneg (by omega)]; exact t3
  have hp := Lib.hid (hb_new w KH hT #[.string u, .string m, .string v, .string e] 24)
  have HS := Lib.hid hp.out.since
  have HX : Hid (AttsS (w.alloc (.cells #[.string u, .string m, .string v, .string e] 24)) x L) := Lib.hid (hx.since ((Since.refl w).alloc _))
  obtain ⟨_, m0, m1, m2, m3⟩ := hb4 hp
  clear hx
  go_enter Tryz.func54, Tryz.ntmps54
  go_wp2_with fail
  clear m0 m1 m2 m3
  refine (c1.calls0 hp.out.tabs) ?_
  intro w1 h1
  replace hp := Lib.hid (hp.out.step (by first | exact h1 | exact (Since.alloc (Since.refl _) _).step h1 | exact (Since.alloc (Since.alloc (Since.refl _) _) _).step h1 | exact (Since.drew (Since.refl _)).step h1 | exact (Since.alloc (Since.alloc (Since.alloc (Since.refl _) _) _) _).step h1))
  replace HX := Lib.hid (HX.out.since (by first | exact h1 | exact (Since.alloc (Since.refl _) _).step h1 | exact (Since.alloc (Since.alloc (Since.refl _) _) _).step h1 | exact (Since.drew (Since.refl _)).step h1 | exact (Since.alloc (Since.alloc (Since.alloc (Since.refl _) _) _) _).step h1))
  replace HS := Lib.hid (HS.out.step (by first | exact h1 | exact (Since.alloc (Since.refl _) _).step h1 | exact (Since.alloc (Since.alloc (Since.refl _) _) _).step h1 | exact (Since.drew (Since.refl _)).step h1 | exact (Since.alloc (Since.alloc (Since.alloc (Since.refl _) _) _) _).step h1))
  clear h1
  obtain ⟨_, m0, m1, m2, m3⟩ := hb4 hp
  go_wp2_with fail
  clear m0 m1 m2 m3
  refine (c2.calls0 hp.out.tabs) ?_
  intro w2 h2
  replace hp := Lib.hid (hp.out.step (by first | exact h2 | exact (Since.alloc (Since.refl _) _).step h2 | exact (Since.alloc (Since.alloc (Since.refl _) _) _).step h2 | exact (Since.drew (Since.refl _)).step h2 | exact (Since.alloc (Since.alloc (Since.alloc (Since.refl _) _) _) _).step h2))
  replace HX := Lib.hid (HX.out.since (by first | exact h2 | exact (Since.alloc (Since.refl _) _).step h2 | exact (Since.alloc (Since.alloc (Since.refl _) _) _).step h2 | exact (Since.drew (Since.refl _)).step h2 | exact (Since.alloc (Since.alloc (Since.alloc (Since.refl _) _) _) _).step h2))
  replace HS := Lib.hid (HS.out.step (by first | exact h2 | exact (Since.alloc (Since.refl _) _).step h2 | exact (Since.alloc (Since.alloc (Since.refl _) _) _).step h2 | exact (Since.drew (Since.refl _)).step h2 | exact (Since.alloc (Since.alloc (Since.alloc (Since.refl _) _) _) _).step h2))
  clear h2
  go_wp2_with fail
  refine (c3.calls0 HX.out) ?_
  intro v3 w3 hv3 h3
  have HV3 := Lib.hid hv3
  clear hv3
  replace hp := Lib.hid (hp.out.step (by first | exact h3 | exact (Since.alloc (Since.refl _) _).step h3 | exact (Since.alloc (Since.alloc (Since.refl _) _) _).step h3 | exact (Since.drew (Since.refl _)).step h3 | exact (Since.alloc (Since.alloc (Since.alloc (Since.refl _) _) _) _).step h3))
  replace HS := Lib.hid (HS.out.step (by first | exact h3 | exact (Since.alloc (Since.refl _) _).step h3 | exact (Since.alloc (Since.alloc (Since.refl _) _) _).step h3 | exact (Since.drew (Since.refl _)).step h3 | exact (Since.alloc (Since.alloc (Since.alloc (Since.refl _) _) _) _).step h3))
  clear h3
  go_wp2_with fail
  refine (c4.calls0 HV3.out) ?_
  intro w4 h4
  replace hp := Lib.hid (hp.out.step (by first | exact h4 | exact (Since.alloc (Since.refl _) _).step h4 | exact (Since.alloc (Since.alloc (Since.refl _) _) _).step h4 | exact (Since.drew (Since.refl _)).step h4 | exact (Since.alloc (Since.alloc (Since.alloc (Since.refl _) _) _) _).step h4))
  replace HS := Lib.hid (HS.out.step (by first | exact h4 | exact (Since.alloc (Since.refl _) _).step h4 | exact (Since.alloc (Since.alloc (Since.refl _) _) _).step h4 | exact (Since.drew (Since.refl _)).step h4 | exact (Since.alloc (Since.alloc (Since.alloc (Since.refl _) _) _) _).step h4))
  clear h4
  obtain ⟨_, m0, m1, m2, m3⟩ := hb4 hp
  go_wp2_with fail
  clear m0 m1 m2 m3
  refine (c5.calls0 hp.out.tabs) ?_
  intro w5 h5
  replace hp := Lib.hid (hp.out.step (by first | exact h5 | exact (Since.alloc (Since.refl _) _).step h5 | exact (Since.alloc (Since.alloc (Since.refl _) _) _).step h5 | exact (Since.drew (Since.refl _)).step h5 | exact (Since.alloc (Since.alloc (Since.alloc (Since.refl _) _) _) _).step h5))
  replace HS := Lib.hid (HS.out.step (by first | exact h5 | exact (Since.alloc (Since.refl _) _).step h5 | exact (Since.alloc (Since.alloc (Since.refl _) _) _).step h5 | exact (Since.drew (Since.refl _)).step h5 | exact (Since.alloc (Since.alloc (Since.alloc (Since.refl _) _) _) _).step h5))
  clear h5
  go_wp2_with fail
  refine (HJ.out _).mono ?_
  rintro e w6 ⟨rfl, h6⟩
  replace HS := Lib.hid (HS.out.step h6)
  go_wp2_with fail
  go_ret2
  exact ⟨rfl, HS.out⟩
end Frame
end Go.Proofs.YtddlaafpianjbaaGreatDoor

/- Package frame: Join, the digits behind the top, the header. -/
namespace Go.Proofs.YtddlaafpianjbaaGreatDoor
open Go.RowKit
namespace Frame
open Att Templ Header
/-- what is put together -/
def joinX (t c g : ByteArray) : ByteArray := t ++ bs (Dig.hexL c.data.toList) ++ bs (Dig.hexL g.data.toList)
set_option maxRecDepth 100000 in
theorem join_mak (t c g : ByteArray) (h1 : t.size ≤ 100000) (h2 : c.size ≤ 100000) (h3 : g.size ≤ 100000) : Mak 29 #[.string t, .string c, .string g] (.string (joinX t c g)) := by
  intro w
  have HS := Lib.hid (Since.refl w)
  have c1 : Mak 61 #[.string c] (.string (bs (Dig.hexL c.data.toList))) := fun W => Dig.hex_any c W (by omega)
  have c2 : Mak 61 #[.string g] (.string (bs (Dig.hexL g.data.toList))) := fun W => Dig.hex_any g W (by omega)
  have hc : c.data.toList.length = c.size := rfl
  have hg : g.data.toList.length = g.size := rfl
  have hs1 : (bs (Dig.hexL c.data.toList)).size = 2 * c.size := by rw [size_bs, Dig.hexL_len, hc]
  have hs2 : (bs (Dig.hexL g.data.toList)).size = 2 * g.size := by rw [size_bs, Dig.hexL_len, hg]
  obtain ⟨C, hC⟩ : ∃ C, bs (Dig.hexL c.data.toList) = C := ⟨_, rfl⟩
  obtain ⟨G, hG⟩ : ∃ G, bs (Dig.hexL g.data.toList) = G := ⟨_, rfl⟩
  obtain ⟨Y, hY⟩ : ∃ Y, joinX t c g = Y := ⟨_, rfl⟩
  have hY2 : t ++ C ++ G = Y := by rw [← hY, ← hC, ← hG]; rfl
  rw [hC] at c1 hs1
  rw [hG] at c2 hs2
  rw [hY]
  have HJ := Lib.hid (fun W => Oct.join_lit W [t, C, G] 3 rfl #[.string t, .string C, .string G] rfl Y (by apply ba_ext; rw [list_bs, ← hY2, app_list, app_list]; simp [Oct.cat]) (by rw [← hY2]; simp only [ByteArray.size_append]; omega) (by decide))
  clear hC hG hY hY2 hc hg
  go_enter Tryz.func29, Tryz.ntmps29
  go_wp2_with fail
  repeat (first
    | (with_reducible refine c1.calls HS.out ?_; intro wz hz; replace HS := Lib.hid hz; clear hz; try go_wp2_with fail)
    | (with_reducible refine c2.calls HS.out ?_; intro wz hz; replace HS := Lib.hid hz; clear hz; try go_wp2_with fail))
  refine (HJ.out _).mono ?_
  rintro e w6 ⟨rfl, h6⟩
  replace HS := Lib.hid (HS.out.step h6)
  go_wp2_with fail
  go_ret
  exact ⟨rfl, HS.out⟩
/-- the payload and the tag whose digits a text has -/
def okT (t : List UInt8) : Bool := Dig.unB t && decide (32 ≤ (Dig.unS t).size) && decide ((Dig.unS t).size % 16 = 0)
def selC (t : List UInt8) : ByteArray := if okT t then (Dig.unS t).extract 0 ((Dig.unS t).size - 16) else ⟨#[]⟩
def selT (t : List UInt8) : ByteArray := if okT t then (Dig.unS t).extract ((Dig.unS t).size - 16) (Dig.unS t).size else ⟨#[]⟩
def selE (t : List UInt8) : Int := if okT t then 0 else 5
def selV (t : List UInt8) : Value := .tuple #[.string (selC t), .string (selT t), .int .i64 (selE t)]
set_option maxRecDepth 100000 in
theorem sel_b1 (t S : ByteArray) (c1 : Mak 166 #[.string t] (.tuple #[.string S, .bool false]))  : Mak 118 #[.string t] (.tuple #[.string ⟨#[]⟩, .string ⟨#[]⟩, .int .i64 5]) := by
  intro w
  have HS := Lib.hid (Since.refl w)
  go_enter Tryz.func118, Tryz.ntmps118
  go_wp2_with fail
  refine (c1.calls0) ?_
  intro w1 h1
  replace HS := Lib.hid (HS.out.step (by first | exact h1 | exact (Since.alloc (Since.refl _) _).step h1 | exact (Since.alloc (Since.alloc (Since.refl _) _) _).step h1 | exact (Since.drew (Since.refl _)).step h1 | exact (Since.alloc (Since.alloc (Since.alloc (Since.refl _) _) _) _).step h1))
  clear h1
  go_wp2_with fail
  go_ret3
  exact ⟨rfl, HS.out⟩
set_option maxRecDepth 100000 in
theorem sel_b2 (t S : ByteArray) (c1 : Mak 166 #[.string t] (.tuple #[.string S, .bool true])) (h : decide ((S.size : Int) < 32) = true) : Mak 118 #[.string t] (.tuple #[.string ⟨#[]⟩, .string ⟨#[]⟩, .int .i64 5]) := by
  intro w
  have HS := Lib.hid (Since.refl w)
  go_enter Tryz.func118, Tryz.ntmps118
  go_wp2_with fail
  refine (c1.calls0) ?_
  intro w1 h1
  replace HS := Lib.hid (HS.out.step (by first | exact h1 | exact (Since.alloc (Since.refl _) _).step h1 | exact (Since.alloc (Since.alloc (Since.refl _) _) _).step h1 | exact (Since.drew (Since.refl _)).step h1 | exact (Since.alloc (Since.alloc (Since.alloc (Since.refl _) _) _) _).step h1))
  clear h1
  go_wp2_with fail
  go_ret3
  exact ⟨rfl, HS.out⟩
set_option maxRecDepth 100000 in
theorem sel_b3 (t S : ByteArray) (c1 : Mak 166 #[.string t] (.tuple #[.string S, .bool true])) (h : decide ((S.size : Int) < 32) = false) (h2 : ((S.size : Int) % 16 != 0) = true) (_h3 : ((S.size : Int).tmod 16 != 0) = true) : Mak 118 #[.string t] (.tuple #[.string ⟨#[]⟩, .string ⟨#[]⟩, .int .i64 5]) := by
  intro w
  have HS := Lib.hid (Since.refl w)
  go_enter Tryz.func118, Tryz.ntmps118
  go_wp2_with fail
  refine (c1.calls0) ?_
  intro w1 h1
  replace HS := Lib.hid (HS.out.step (by first | exact h1 | exact (Since.alloc (Since.refl _) _).step h1 | exact (Since.alloc (Since.alloc (Since.refl _) _) _).step h1 | exact (Since.drew (Since.refl _)).step h1 | exact (Since.alloc (Since.alloc (Since.alloc (Since.refl _) _) _) _).step h1))
  clear h1
  go_wp2_with fail
  go_ret3
  exact ⟨rfl, HS.out⟩
set_option maxRecDepth 100000 in
theorem sel_ok (t S : ByteArray) (c1 : Mak 166 #[.string t] (.tuple #[.string S, .bool true])) (hs : S.size ≤ 1000000) (h32 : 32 ≤ S.size) (h16 : S.size % 16 = 0) : Mak 118 #[.string t] (.tuple #[.string (S.extract 0 (S.size - 16)), .string (S.extract (S.size - 16) S.size), .int .i64 0]) := by
  intro w
  have HS := Lib.hid (Since.refl w)
  have h : decide ((S.size : Int) < 32) = false := decide_eq_false (by omega)
  have h2 : ((S.size : Int) % 16 != 0) = false := bne_eq_false_iff_eq.2 (by omega)
  have h3 : ((S.size : Int).tmod 16 != 0) = false := bne_eq_false_iff_eq.2 (by rw [Int.tmod_eq_emod_of_nonneg (by omega)]; omega)
  obtain ⟨m, hm⟩ : ∃ m : Nat, m = S.size - 16 := ⟨_, rfl⟩
  have e1 : IntKind.i64.wrap ((S.size : Int) - 16) = (m : Int) := by rw [IntWalk.i64_in _ (by omega)]; omega
  have e2 : (S.size : Int) - 16 = (m : Int) := by omega
  have i1 : (0 : Int) ≤ (m : Int) := by omega
  have i2 : (m : Int) ≤ (S.size : Int) := by omega
  rw [← hm]
  clear hm h16
  go_enter Tryz.func118, Tryz.ntmps118
  go_wp2_with fail
  refine (c1.calls0) ?_
  intro w1 h1
  replace HS := Lib.hid (HS.out.step (by first | exact h1 | exact (Since.alloc (Since.refl _) _).step h1 | exact (Since.alloc (Since.alloc (Since.refl _) _) _).step h1 | exact (Since.drew (Since.refl _)).step h1 | exact (Since.alloc (Since.alloc (Since.alloc (Since.refl _) _) _) _).step h1))
  clear h1
  go_wp2_with fail
  go_quiet (fail)
  replace HS := Lib.hid (HS.out.step (belowN _ nq))
  go_wp2_with fail
  go_ret3
  exact ⟨rfl, HS.out⟩
theorem sealed_mak (t : ByteArray) (hm : t.size ≤ 1000000) : Mak 118 #[.string t] (selV t.data.toList) := by
  have c1 := unhex_all t hm
  have hl := unS_le t.data.toList
  have htl : t.data.toList.length = t.size := rfl
  unfold selV selC selT selE
  by_cases hok : okT t.data.toList = true
  · rw [if_pos hok, if_pos hok, if_pos hok]
    unfold okT at hok
    simp only [Bool.and_eq_true, decide_eq_true_eq] at hok
    obtain ⟨⟨h1, h2⟩, h3⟩ := hok
    rw [h1] at c1
    exact sel_ok t _ c1 (by omega) h2 h3
  · rw [if_neg hok, if_neg hok, if_neg hok]
    cases hb : Dig.unB t.data.toList with
    | false => rw [hb] at c1; exact sel_b1 t _ c1
    | true =>
      rw [hb] at c1
      by_cases h2 : (Dig.unS t.data.toList).size < 32
      · exact sel_b2 t _ c1 (decide_eq_true (by omega))
      · have h3 : (Dig.unS t.data.toList).size % 16 ≠ 0 := fun h => hok (by unfold okT; rw [hb, decide_eq_true (by omega), decide_eq_true h]; rfl)
        exact sel_b3 t _ c1 (decide_eq_false (by omega)) (bne_iff_ne.2 (by omega)) (bne_iff_ne.2 (by rw [Int.tmod_eq_emod_of_nonneg (by omega)]; omega))
/-- the header with which a text begins, if it tells the text's length -/
def begE (s : ByteArray) : Int := if s.size = 0 then 3 else if 9999 < s.size then 4 else if Header.decE s ≠ 0 then Header.decE s else if Dig.numD (s.extract 1 5).data.toList ≠ s.size then 5 else 0
def begV (s : ByteArray) : Array Value := if begE s = 0 then Header.decV s else Z7
set_option maxRecDepth 100000 in
theorem beg_early (s : ByteArray) (E : Int) (h : (s.size = 0 ∧ E = 3) ∨ (9999 < s.size ∧ E = 4)) : KMk KH 115 #[.string s] (.tuple #[.agg Z7, .int .i64 E]) := by
  intro w hT
  have HB := Lib.hid (heap_alloc_new w (.cells Z7 112))
  unfold Z7 at HB
  rcases h with ⟨h, rfl⟩ | ⟨h, rfl⟩
  · obtain rfl : s = ⟨#[]⟩ := by apply ba_ext; exact List.length_eq_zero_iff.1 h
    clear h
    go_enter Tryz.func115, Tryz.ntmps115
    go_wp2_with (refine wpList_store_row rfl 112 _ _ rfl w.heap.size (C7 0 0 ⟨#[]⟩ ⟨#[]⟩ ⟨#[]⟩ ⟨#[]⟩ ⟨#[]⟩) (by rfl) (by rfl) _ _ HB.out (c7_info _ _ _ _ _ _ _) rfl (c7_one _ _ _ _ _ _ _) ?_)
    exact bodyPost_ret (v := .tuple #[.agg Z7, .int .i64 3]) (results_cell_tmp2 Tryz.results115 _ _ _ _ _ _ _ _ rfl rfl (setRow_heap _ _ _ _ _ _ HB.out) Tryz.underlying112 rfl (c7_info _ _ _ _ _ _ _)) rfl ⟨rfl, below_setRow ((Since.refl w).alloc _) (Nat.le_refl _) _⟩
  · have b1 := some_bytes s (by omega)
    have b2 := some_bytes_f s (by omega)
    have t1 : decide ((9999 : Int) < (s.size : Int)) = true := decide_eq_true (by omega)
    clear h
    go_enter Tryz.func115, Tryz.ntmps115
    go_wp2_with (refine wpList_store_row rfl 112 _ _ rfl w.heap.size (C7 0 0 ⟨#[]⟩ ⟨#[]⟩ ⟨#[]⟩ ⟨#[]⟩ ⟨#[]⟩) (by rfl) (by rfl) _ _ HB.out (c7_info _ _ _ _ _ _ _) rfl (c7_one _ _ _ _ _ _ _) ?_)
    exact bodyPost_ret (v := .tuple #[.agg Z7, .int .i64 4]) (results_cell_tmp2 Tryz.results115 _ _ _ _ _ _ _ _ rfl rfl (setRow_heap _ _ _ _ _ _ HB.out) Tryz.underlying112 rfl (c7_info _ _ _ _ _ _ _)) rfl ⟨rfl, below_setRow ((Since.refl w).alloc _) (Nat.le_refl _) _⟩
set_option maxRecDepth 100000 in
theorem beg_err (s : ByteArray) (h0 : 0 < s.size) (h9 : s.size ≤ 9999) (n k E : Int) (l u m v e : ByteArray) (hE : (E == 0) = false) (c1 : KMk KH 163 #[.string s] (.tuple #[.agg #[.int .i64 n, .string l, .int .i64 k, .string u, .string m, .string v, .string e], .int .i64 E])) : KMk KH 115 #[.string s] (.tuple #[.agg (C7 n k l u m v e), .int .i64 E]) := by
  intro w hT
  have hr : Hid (HR w w.heap.size Z7 112 (w.alloc (.cells Z7 112))) := Lib.hid ⟨heap_alloc_new w _⟩
  have HS : Hid (Since w (w.alloc (.cells Z7 112))) := Lib.hid ((Since.refl w).alloc _)
  have HT : Hid (KH (w.alloc (.cells Z7 112))) := Lib.hid (Kp.keep hT ((Below.refl _ w).alloc (Nat.le_refl _) _))
  unfold Z7 at hr HS HT
  have b1 := some_bytes s (by omega)
  have b2 := some_bytes_f s (by omega)
  have t1 : decide ((9999 : Int) < (s.size : Int)) = false := decide_eq_false (by omega)
  clear hT
  go_enter Tryz.func115, Tryz.ntmps115
  go_wp2_with fail
  refine (c1.calls0 HT.out) ?_
  intro w1 h1
  replace hr := Lib.hid (hr.out.step (by first | exact h1 | exact (Since.alloc (Since.refl _) _).step h1 | exact (Since.alloc (Since.alloc (Since.refl _) _) _).step h1 | exact (Since.drew (Since.refl _)).step h1 | exact (Since.alloc (Since.alloc (Since.alloc (Since.refl _) _) _) _).step h1))
  replace HS := Lib.hid (HS.out.step (by first | exact h1 | exact (Since.alloc (Since.refl _) _).step h1 | exact (Since.alloc (Since.alloc (Since.refl _) _) _).step h1 | exact (Since.drew (Since.refl _)).step h1 | exact (Since.alloc (Since.alloc (Since.alloc (Since.refl _) _) _) _).step h1))
  clear h1
  have hr2 : Hid (HR w w.heap.size #[.int .i64 0, .string ⟨#[]⟩, .int .i64 0, .string ⟨#[]⟩, .string ⟨#[]⟩, .string ⟨#[]⟩, .string ⟨#[]⟩] 112 (w1.alloc (.cells #[.int .i64 n, .string l, .int .i64 k, .string u, .string m, .string v, .string e] 112))) := Lib.hid (hr_old hr.out _)
  have HS2 := Lib.hid (HS.out.alloc (.cells #[.int .i64 n, .string l, .int .i64 k, .string u, .string m, .string v, .string e] 112))
  clear hr HS HT
  go_wp2_with (refine wpList_store_row rfl 112 _ _ rfl w.heap.size (C7 n k l u m v e) (by rfl) (by rfl) _ _ hr2.out.row (c7_info _ _ _ _ _ _ _) rfl (c7_one _ _ _ _ _ _ _) ?_)
  exact bodyPost_ret (v := .tuple #[.agg (C7 n k l u m v e), .int .i64 E]) (results_cell_tmp2 Tryz.results115 _ _ _ _ _ _ _ _ rfl rfl (setRow_heap _ _ _ _ _ _ hr2.out.row) Tryz.underlying112 rfl (c7_info _ _ _ _ _ _ _)) rfl ⟨rfl, below_setRow HS2.out (Nat.le_refl _) _⟩
set_option maxRecDepth 100000 in
theorem beg_len (s : ByteArray) (h0 : 0 < s.size) (h9 : s.size ≤ 9999) (n k _E : Int) (l u m v e : ByteArray) (hE : (n == (s.size : Int)) = false) (c1 : KMk KH 163 #[.string s] (.tuple #[.agg #[.int .i64 n, .string l, .int .i64 k, .string u, .string m, .string v, .string e], .int .i64 0])) : KMk KH 115 #[.string s] (.tuple #[.agg (C7 0 0 ⟨#[]⟩ ⟨#[]⟩ ⟨#[]⟩ ⟨#[]⟩ ⟨#[]⟩), .int .i64 5]) := by
  intro w hT
  have hr : Hid (HR w w.heap.size Z7 112 (w.alloc (.cells Z7 112))) := Lib.hid ⟨heap_alloc_new w _⟩
  have HS : Hid (Since w (w.alloc (.cells Z7 112))) := Lib.hid ((Since.refl w).alloc _)
  have HT : Hid (KH (w.alloc (.cells Z7 112))) := Lib.hid (Kp.keep hT ((Below.refl _ w).alloc (Nat.le_refl _) _))
  unfold Z7 at hr HS HT
  have b1 := some_bytes s (by omega)
  have b2 := some_bytes_f s (by omega)
  have t1 : decide ((9999 : Int) < (s.size : Int)) = false := decide_eq_false (by omega)
  clear hT
  go_enter Tryz.func115, Tryz.ntmps115
  go_wp2_with fail
  refine (c1.calls0 HT.out) ?_
  intro w1 h1
  replace hr := Lib.hid (hr.out.step (by first | exact h1 | exact (Since.alloc (Since.refl _) _).step h1 | exact (Since.alloc (Since.alloc (Since.refl _) _) _).step h1 | exact (Since.drew (Since.refl _)).step h1 | exact (Since.alloc (Since.alloc (Since.alloc (Since.refl _) _) _) _).step h1))
  replace HS := Lib.hid (HS.out.step (by first | exact h1 | exact (Since.alloc (Since.refl _) _).step h1 | exact (Since.alloc (Since.alloc (Since.refl _) _) _).step h1 | exact (Since.drew (Since.refl _)).step h1 | exact (Since.alloc (Since.alloc (Since.alloc (Since.refl _) _) _) _).step h1))
  clear h1
  have hr2 : Hid (HR w w.heap.size #[.int .i64 0, .string ⟨#[]⟩, .int .i64 0, .string ⟨#[]⟩, .string ⟨#[]⟩, .string ⟨#[]⟩, .string ⟨#[]⟩] 112 (w1.alloc (.cells #[.int .i64 n, .string l, .int .i64 k, .string u, .string m, .string v, .string e] 112))) := Lib.hid (hr_old hr.out _)
  have HS2 := Lib.hid (HS.out.alloc (.cells #[.int .i64 n, .string l, .int .i64 k, .string u, .string m, .string v, .string e] 112))
  clear hr HS HT
  go_wp2_with (refine wpList_store_row rfl 112 _ _ rfl w.heap.size (C7 0 0 ⟨#[]⟩ ⟨#[]⟩ ⟨#[]⟩ ⟨#[]⟩ ⟨#[]⟩) (by rfl) (by rfl) _ _ hr2.out.row (c7_info _ _ _ _ _ _ _) rfl (c7_one _ _ _ _ _ _ _) ?_)
  exact bodyPost_ret (v := .tuple #[.agg (C7 0 0 ⟨#[]⟩ ⟨#[]⟩ ⟨#[]⟩ ⟨#[]⟩ ⟨#[]⟩), .int .i64 5]) (results_cell_tmp2 Tryz.results115 _ _ _ _ _ _ _ _ rfl rfl (setRow_heap _ _ _ _ _ _ hr2.out.row) Tryz.underlying112 rfl (c7_info _ _ _ _ _ _ _)) rfl ⟨rfl, below_setRow HS2.out (Nat.le_refl _) _⟩
set_option maxRecDepth 100000 in
theorem beg_ok (s : ByteArray) (h0 : 0 < s.size) (h9 : s.size ≤ 9999) (n k _E : Int) (l u m v e : ByteArray) (hE : (n == (s.size : Int)) = true) (c1 : KMk KH 163 #[.string s] (.tuple #[.agg #[.int .i64 n, .string l, .int .i64 k, .string u, .string m, .string v, .string e], .int .i64 0])) : KMk KH 115 #[.string s] (.tuple #[.agg (C7 n k l u m v e), .int .i64 0]) := by
  intro w hT
  have hr : Hid (HR w w.heap.size Z7 112 (w.alloc (.cells Z7 112))) := Lib.hid ⟨heap_alloc_new w _⟩
  have HS : Hid (Since w (w.alloc (.cells Z7 112))) := Lib.hid ((Since.refl w).alloc _)
  have HT : Hid (KH (w.alloc (.cells Z7 112))) := Lib.hid (Kp.keep hT ((Below.refl _ w).alloc (Nat.le_refl _) _))
  unfold Z7 at hr HS HT
  have b1 := some_bytes s (by omega)
  have b2 := some_bytes_f s (by omega)
  have t1 : decide ((9999 : Int) < (s.size : Int)) = false := decide_eq_false (by omega)
  clear hT
  go_enter Tryz.func115, Tryz.ntmps115
  go_wp2_with fail
  refine (c1.calls0 HT.out) ?_
  intro w1 h1
  replace hr := Lib.hid (hr.out.step (by first | exact h1 | exact (Since.alloc (Since.refl _) _).step h1 | exact (Since.alloc (Since.alloc (Since.refl _) _) _).step h1 | exact (Since.drew (Since.refl _)).step h1 | exact (Since.alloc (Since.alloc (Since.alloc (Since.refl _) _) _) _).step h1))
  replace HS := Lib.hid (HS.out.step (by first | exact h1 | exact (Since.alloc (Since.refl _) _).step h1 | exact (Since.alloc (Since.alloc (Since.refl _) _) _).step h1 | exact (Since.drew (Since.refl _)).step h1 | exact (Since.alloc (Since.alloc (Since.alloc (Since.refl _) _) _) _).step h1))
  clear h1
  have hr2 : Hid (HR w w.heap.size #[.int .i64 0, .string ⟨#[]⟩, .int .i64 0, .string ⟨#[]⟩, .string ⟨#[]⟩, .string ⟨#[]⟩, .string ⟨#[]⟩] 112 (w1.alloc (.cells #[.int .i64 n, .string l, .int .i64 k, .string u, .string m, .string v, .string e] 112))) := Lib.hid (hr_old hr.out _)
  have HS2 := Lib.hid (HS.out.alloc (.cells #[.int .i64 n, .string l, .int .i64 k, .string u, .string m, .string v, .string e] 112))
  clear hr HS HT
  go_wp2_with (refine wpList_store_row rfl 112 _ _ rfl w.heap.size (C7 n k l u m v e) (by rfl) (by rfl) _ _ hr2.out.row (c7_info _ _ _ _ _ _ _) rfl (c7_one _ _ _ _ _ _ _) ?_)
  exact bodyPost_ret (v := .tuple #[.agg (C7 n k l u m v e), .int .i64 0]) (results_cell_tmp2 Tryz.results115 _ _ _ _ _ _ _ _ rfl rfl (setRow_heap _ _ _ _ _ _ hr2.out.row) Tryz.underlying112 rfl (c7_info _ _ _ _ _ _ _)) rfl ⟨rfl, below_setRow HS2.out (Nat.le_refl _) _⟩
theorem begin_k (s : ByteArray) (hm : s.size ≤ 1000000) : KMk KH 115 #[.string s] (.tuple #[.agg (begV s), .int .i64 (begE s)]) := by
  unfold begV
  by_cases h0 : s.size = 0
  · have e : begE s = 3 := if_pos h0
    rw [e, if_neg (by decide)]
    exact beg_early s 3 (Or.inl ⟨h0, rfl⟩)
  by_cases h9 : 9999 < s.size
  · have e : begE s = 4 := by unfold begE; rw [if_neg h0, if_pos h9]
    rw [e, if_neg (by decide)]
    exact beg_early s 4 (Or.inr ⟨h9, rfl⟩)
  have c1 := dec_any s hm
  rcases dec_cases s with ⟨hE, hV⟩ | ⟨hE, hF, hk⟩
  · have e : begE s = Header.decE s := by unfold begE; rw [if_neg h0, if_neg h9, if_pos hE]
    rw [e, if_neg hE]
    rw [hV] at c1
    exact beg_err s (by omega) (by omega) 0 0 _ _ _ _ _ _ (beq_eq_false_iff_ne.2 hE) c1
  · have hv : Header.decV s = C7 (Dig.numD (s.extract 1 5).data.toList : Int) (Dig.numD (s.extract 12 14).data.toList : Int) (s.extract 7 8) (s.extract 5 7) (s.extract 8 9) (s.extract 9 11) (s.extract 11 12) := if_pos ⟨hF, hk⟩
    rw [hv, hE] at c1
    by_cases hn : Dig.numD (s.extract 1 5).data.toList = s.size
    · have e : begE s = 0 := by unfold begE; rw [if_neg h0, if_neg h9, if_neg (fun h => h hE), if_neg (fun h => h hn)]
      rw [e, if_pos rfl, hv]
      exact beg_ok s (by omega) (by omega) _ _ 0 _ _ _ _ _ (by rw [hn]; exact beq_self_eq_true _) c1
    · have e : begE s = 5 := by unfold begE; rw [if_neg h0, if_neg h9, if_neg (fun h => h hE), if_pos hn]
      rw [e, if_neg (by decide)]
      exact beg_len s (by omega) (by omega) _ _ 0 _ _ _ _ _ (beq_eq_false_iff_ne.2 (by omega)) c1
end Frame
end Go.Proofs.YtddlaafpianjbaaGreatDoor

/- Package frame: a block taken apart. -/
namespace Go
@[go_sem] theorem run_store_complex {P : Program} {w : World} {a : Addr} {m : Mode} (k : FloatKind) (x y : Nat) : (store a (.complex k x y) m).run P w = stored P w a (.complex k x y) m := run_store P w a _ m rfl
end Go
namespace Go.Proofs.YtddlaafpianjbaaGreatDoor
open Go.RowKit
theorem heap_setCell_row {W : World} {g : Nat} {C : Array Value} {T : TypeId} (h : W.heap[g]? = some (.cells C T (0, 0))) (i : Nat) (v : Value) : (W.setCell ⟨g, i, none⟩ v).heap[g]? = some (.cells (C.setIfInBounds i v) T (0, 0)) := by
  unfold World.setCell
  simp [Array.getElem?_modify, h]
theorem row_cell? {W : World} {g : Nat} {C : Array Value} {T : TypeId} (h : W.heap[g]? = some (.cells C T (0, 0))) (i : Nat) (v : Value) (hv : C[i]? = some v) : W.cell? ⟨g, i, none⟩ = some v := by
  unfold World.cell?
  rw [h]; exact hv
theorem row_free {W : World} {g : Nat} {C : Array Value} {T : TypeId} (h : W.heap[g]? = some (.cells C T (0, 0))) (i : Nat) : W.frozen? ⟨g, i, none⟩ = false := by
  unfold World.frozen?
  rw [h]; simp
namespace Frame
open Att Templ Header
/-- the block in which a slice lies -/
def _root_.Go.Value.blockOf : Value → Option Nat
  | .slice (some A) _ _ => some A.block
  | _ => none
theorem fresh_ne {n g : Nat} {v : Value} (h : Fresh n v) (hg : g < n) : ∀ b, v.blockOf = some b → b ≠ g := by
  intro b hb e
  match v, hb with
  | .slice (some A) l c, hb =>
    have h2 := h A l c rfl
    cases hb
    omega
theorem far_atts {W : World} {v : Value} {L : List A2} (h : AttsS W v L) (g : Nat) (hne : ∀ b, v.blockOf = some b → b ≠ g) (i : Nat) (x : Value) : AttsS (W.setCell ⟨g, i, none⟩ x) v L := by
  obtain ⟨h1, A, c, rfl, h2, h3, h4⟩ := h
  refine ⟨h1, A, c, rfl, h2, h3, ?_⟩
  rcases h4 with h4 | ⟨b, o, rfl, hlt, hc⟩
  · exact Or.inl h4
  · refine Or.inr ⟨b, o, rfl, by simpa using hlt, fun j u hu => ?_⟩
    have hb := hne b rfl
    rw [World.cell?_setCell_far W ⟨g, i, none⟩ ⟨b, o + j, none⟩ x (fun e => hb e.symm)]
    exact hc j u hu
def Z9 : Array Value := #[.string ⟨#[]⟩, .string ⟨#[]⟩, .string ⟨#[]⟩, .string ⟨#[]⟩, .string ⟨#[]⟩, .slice none 0 0, .string ⟨#[]⟩, .string ⟨#[]⟩, .string ⟨#[]⟩]
def Z4 : Array Value := #[.complex .f64 0 0, .complex .f64 0 0, .complex .f64 0 0, .complex .f64 0 0]
/-- what stands: both results' rows, and the frame that is made -/
structure SP (w : World) (C : Array Value) (W : World) : Prop where
  since : Since w W
  tabs : KH W
  r2 : W.heap[w.heap.size]? = some (.cells Z9 53 (0, 0))
  r3 : W.heap[w.heap.size + 1]? = some (.cells Z4 85 (0, 0))
  rf : W.heap[w.heap.size + 1 + 1]? = some (.cells C 53 (0, 0))
theorem SP.step {w : World} {C : Array Value} {W W' : World} (h : SP w C W) (hb : Below W.heap.size W W') : SP w C W' :=
  ⟨h.since.step hb, Kp.keep h.tabs hb, (hb.block _ (Array.getElem?_eq_some_iff.1 h.r2).1).trans h.r2, (hb.block _ (Array.getElem?_eq_some_iff.1 h.r3).1).trans h.r3, (hb.block _ (Array.getElem?_eq_some_iff.1 h.rf).1).trans h.rf⟩
theorem sp_new (w : World) (hT : KH w) : SP w Z9 (((w.alloc (.cells Z9 53)).alloc (.cells Z4 85)).alloc (.cells Z9 53)) := by
  have h0 := heap_alloc_new w (.cells Z9 53)
  have h1 := heap_alloc_new (w.alloc (.cells Z9 53)) (.cells Z4 85)
  have h2 := heap_alloc_new ((w.alloc (.cells Z9 53)).alloc (.cells Z4 85)) (.cells Z9 53)
  have e1 : (w.alloc (.cells Z9 53)).heap.size = w.heap.size + 1 := by simp
  have e2 : ((w.alloc (.cells Z9 53)).alloc (.cells Z4 85)).heap.size = w.heap.size + 1 + 1 := by simp
  rw [e1] at h1
  rw [e2] at h2
  refine ⟨(((Since.refl w).alloc _).alloc _).alloc _, ?_, ?_, ?_, h2⟩
  · exact Kp.keep hT ((((Since.refl w).alloc _).alloc _).alloc _)
  · exact (heap_alloc_old _ _ (by simp; omega)).trans ((heap_alloc_old _ _ (by simp)).trans h0)
  · exact (heap_alloc_old _ _ (by simp)).trans h1
theorem keep_far {w W : World} (h : Since w W) (p : Addr) (hp : w.heap.size ≤ p.block) (v : Value) : Since w (W.setCell p v) := Below.setCell h hp v
theorem SP.set {w : World} {C : Array Value} {W : World} (h : SP w C W) (hT : KH w) (i : Nat) (v : Value) (C' : Array Value) (hC : C.setIfInBounds i v = C') : SP w C' (W.setCell ⟨w.heap.size + 1 + 1, i, none⟩ v) := by
  subst hC
  have hs := keep_far h.since ⟨w.heap.size + 1 + 1, i, none⟩ (by show w.heap.size ≤ w.heap.size + 1 + 1; omega) v
  exact ⟨hs, Kp.keep hT hs, (Go.Deep.blk_setCell_other _ _ _ _ (by show w.heap.size ≠ w.heap.size + 1 + 1; omega)).trans h.r2, (Go.Deep.blk_setCell_other _ _ _ _ (by show w.heap.size + 1 ≠ w.heap.size + 1 + 1; omega)).trans h.r3, heap_setCell_row h.rf i v⟩
theorem far_cell {W : World} {g i : Nat} {p : Addr} {x y : Value} (h : W.cell? p = some x) (hne : p.block ≠ g) : (W.setCell ⟨g, i, none⟩ y).cell? p = some x := (World.cell?_setCell_far W ⟨g, i, none⟩ p y (fun e => hne e.symm)).trans h
def C9 (l u m v e : ByteArray) (x : Value) (t c g : ByteArray) : Array Value := #[.string l, .string u, .string m, .string v, .string e, x, .string t, .string c, .string g]
def CX (D M Z : Nat) : Array Value := #[.complex .f64 (Flt.fl 0) (Flt.fl 16), .complex .f64 (Flt.fl 16) (Flt.fl (D : Int)), .complex .f64 (Flt.fl (D : Int)) (Flt.fl (M : Int)), .complex .f64 (Flt.fl (M : Int)) (Flt.fl (Z : Int))]
set_option maxRecDepth 100000 in
theorem c9_info (l u m v e : ByteArray) (x : Value) (t c g : ByteArray) : (Tryz.prog.info? 53).map (·.size) = some (C9 l u m v e x t c g).size := by kernel_rfl
set_option maxRecDepth 100000 in
theorem cx_info (D M Z : Nat) : (Tryz.prog.info? 85).map (·.size) = some (CX D M Z).size := by kernel_rfl
theorem c9_one (l u m v e : ByteArray) (A : Option Addr) (n k : Nat) (t c g : ByteArray) : (C9 l u m v e (.slice A n k) t c g).all (·.oneCell') = true := by
  rw [Array.all_eq_true]
  intro i hi
  match i, hi with
  | 0, _ | 1, _ | 2, _ | 3, _ | 4, _ | 5, _ | 6, _ | 7, _ | 8, _ => rfl
theorem results_cc_tmp {P : Program} {fn : Func} {p q u : Tmp} {ty sy : TypeId} (h : fn.results = #[.cell p ty, .cell q sy, .tmp u]) (tmps : Array Value) (w : World) (g k : Nat) (t s : TypeId) (cs ds : Array Value) (fr gr : Nat × Nat) (d d' : TypeDesc) (v : Value)
    (hp : tmps.getD p undef = .pointer (some ⟨g, 0, none⟩)) (hq : tmps.getD q undef = .pointer (some ⟨k, 0, none⟩)) (hv : tmps.getD u undef = v) (hg : w.heap[g]? = some (.cells cs t fr)) (hk : w.heap[k]? = some (.cells ds s gr))
    (hu : P.underlying ty = some d) (hd : (match d with | .struct _ | .array _ _ => true | _ => false) = true) (hi : (P.info? ty).map (·.size) = some cs.size)
    (hu' : P.underlying sy = some d') (hd' : (match d' with | .struct _ | .array _ _ => true | _ => false) = true) (hi' : (P.info? sy).map (·.size) = some ds.size) :
    (results fn tmps).run P w = .ok (.tuple #[.agg cs, .agg ds, v]) w := by
  subst hv
  have hp' : tmps[p]?.getD undef = .pointer (some ⟨g, 0, none⟩) := by simpa using hp
  have hq' : tmps[q]?.getD undef = .pointer (some ⟨k, 0, none⟩) := by simpa using hq
  simp [results, h, hp', hq', asAddr, run_loadVar_row w g t ty cs fr d hg hu hd hi, run_loadVar_row w k s sy ds gr d' hk hu' hd' hi']
/-- no frame -/
def noF (E : Int) : Value := .tuple #[.agg Z9, .agg Z4, .int .i64 E]
/-- up to the header's fields in the frame -/
def W6 (W : World) (g : Nat) (l u m v e : ByteArray) : World := (((((W.setCell ⟨g, 0, none⟩ (.string l)).setCell ⟨g, 1, none⟩ (.string u)).setCell ⟨g, 2, none⟩ (.string m)).setCell ⟨g, 3, none⟩ (.string v)).setCell ⟨g, 4, none⟩ (.string e)).drew
theorem W6.sp {w W : World} (h : SP w Z9 W) (hT : KH w) (l u m v e : ByteArray) : SP w (C9 l u m v e (.slice none 0 0) ⟨#[]⟩ ⟨#[]⟩ ⟨#[]⟩) (W6 W (w.heap.size + 1 + 1) l u m v e) := by
  have h0 := h.set hT 0 (.string l) (C9 l ⟨#[]⟩ ⟨#[]⟩ ⟨#[]⟩ ⟨#[]⟩ (.slice none 0 0) ⟨#[]⟩ ⟨#[]⟩ ⟨#[]⟩) (by simp [Z9, C9])
  have h1 := h0.set hT 1 (.string u) (C9 l u ⟨#[]⟩ ⟨#[]⟩ ⟨#[]⟩ (.slice none 0 0) ⟨#[]⟩ ⟨#[]⟩ ⟨#[]⟩) (by simp [C9])
  have h2 := h1.set hT 2 (.string m) (C9 l u m ⟨#[]⟩ ⟨#[]⟩ (.slice none 0 0) ⟨#[]⟩ ⟨#[]⟩ ⟨#[]⟩) (by simp [C9])
  have h3 := h2.set hT 3 (.string v) (C9 l u m v ⟨#[]⟩ (.slice none 0 0) ⟨#[]⟩ ⟨#[]⟩ ⟨#[]⟩) (by simp [C9])
  have h4 := h3.set hT 4 (.string e) (C9 l u m v e (.slice none 0 0) ⟨#[]⟩ ⟨#[]⟩ ⟨#[]⟩) (by simp [C9])
  unfold W6
  exact h4.step (Below.drew (Below.refl _ _))
theorem W6.far {W : World} {g : Nat} {p : Addr} {x : Value} (h : W.cell? p = some x) (hne : p.block ≠ g) (l u m v e : ByteArray) : (W6 W g l u m v e).cell? p = some x := by
  have h0 := far_cell (i := 0) (y := .string l) h hne
  have h1 := far_cell (i := 1) (y := .string u) h0 hne
  have h2 := far_cell (i := 2) (y := .string m) h1 hne
  have h3 := far_cell (i := 3) (y := .string v) h2 hne
  have h4 := far_cell (i := 4) (y := .string e) h3 hne
  unfold W6
  generalize (((((W.setCell ⟨g, 0, none⟩ (.string l)).setCell ⟨g, 1, none⟩ (.string u)).setCell ⟨g, 2, none⟩ (.string m)).setCell ⟨g, 3, none⟩ (.string v)).setCell ⟨g, 4, none⟩ (.string e)) = X at h4 ⊢
  exact h4
def setA (C : Array Value) : Nat → List Value → Array Value
  | _, [] => C
  | o, v :: vs => setA (C.setIfInBounds o v) (o + 1) vs
theorem row_setCells {g : Nat} {T : TypeId} : ∀ (vs : List Value) (o : Nat) (W : World) (C : Array Value), W.heap[g]? = some (.cells C T (0, 0)) → (W.setCells g o vs).heap[g]? = some (.cells (setA C o vs) T (0, 0))
  | [], _, _, _, h => h
  | v :: vs, o, W, C, h => row_setCells vs (o + 1) (W.setCell ⟨g, o, none⟩ v) (C.setIfInBounds o v) (heap_setCell_row h o v)
theorem other_setCells {g k : Nat} (hne : k ≠ g) : ∀ (vs : List Value) (o : Nat) (W : World), (W.setCells g o vs).heap[k]? = W.heap[k]?
  | [], _, _ => rfl
  | v :: vs, o, W => (other_setCells hne vs (o + 1) (W.setCell ⟨g, o, none⟩ v)).trans (Go.Deep.blk_setCell_other _ _ _ _ hne)
theorem far_setCells {v : Value} {L : List A2} {g : Nat} (hne : ∀ b, v.blockOf = some b → b ≠ g) : ∀ (vs : List Value) (o : Nat) (W : World), AttsS W v L → AttsS (W.setCells g o vs) v L
  | [], _, _, h => h
  | x :: vs, o, W, h => far_setCells hne vs (o + 1) (W.setCell ⟨g, o, none⟩ x) (far_atts h g hne o x)
/-- both results, cell for cell -/
def W13 (W : World) (g : Nat) (l u m v e : ByteArray) (x : Value) (P C G : ByteArray) (q0 q1 q2 q3 : Value) : World :=
  (((((((((((((W.setCell ⟨g, 0, none⟩ (.string l)).setCell ⟨g, 1, none⟩ (.string u)).setCell ⟨g, 2, none⟩ (.string m)).setCell ⟨g, 3, none⟩ (.string v)).setCell ⟨g, 4, none⟩ (.string e)).setCell ⟨g, 5, none⟩ x).setCell ⟨g, 6, none⟩ (.string P)).setCell ⟨g, 7, none⟩ (.string C)).setCell ⟨g, 8, none⟩ (.string G)).setCell ⟨g + 1, 0, none⟩ q0).setCell ⟨g + 1, 1, none⟩ q1).setCell ⟨g + 1, 2, none⟩ q2).setCell ⟨g + 1, 3, none⟩ q3).drew
theorem W13.facts {w W : World} {B : Array Value} (h : SP w B W) (l u m v e : ByteArray) (x : Value) (P C G : ByteArray) (q0 q1 q2 q3 : Value) {L : List A2} (hx : AttsS W x L) (hne : ∀ b, x.blockOf = some b → b ≠ w.heap.size ∧ b ≠ w.heap.size + 1) :
    (W13 W w.heap.size l u m v e x P C G q0 q1 q2 q3).heap[w.heap.size]? = some (.cells (C9 l u m v e x P C G) 53 (0, 0)) ∧ (W13 W w.heap.size l u m v e x P C G q0 q1 q2 q3).heap[w.heap.size + 1]? = some (.cells #[q0, q1, q2, q3] 85 (0, 0)) ∧ AttsS (W13 W w.heap.size l u m v e x P C G q0 q1 q2 q3) x L ∧ Since w (W13 W w.heap.size l u m v e x P C G q0 q1 q2 q3) := by
  have e1 : W13 W w.heap.size l u m v e x P C G q0 q1 q2 q3 = ((W.setCells w.heap.size 0 [.string l, .string u, .string m, .string v, .string e, x, .string P, .string C, .string G]).setCells (w.heap.size + 1) 0 [q0, q1, q2, q3]).drew := rfl
  rw [e1]
  have a1 := row_setCells [.string l, .string u, .string m, .string v, .string e, x, .string P, .string C, .string G] 0 W Z9 h.r2
  have a2 : setA Z9 0 [.string l, .string u, .string m, .string v, .string e, x, .string P, .string C, .string G] = C9 l u m v e x P C G := by simp [setA, Z9, C9]
  rw [a2] at a1
  obtain ⟨X, hX⟩ : ∃ X, W.setCells w.heap.size 0 [.string l, .string u, .string m, .string v, .string e, x, .string P, .string C, .string G] = X := ⟨_, rfl⟩
  have a3 : X.heap[w.heap.size + 1]? = some (.cells Z4 85 (0, 0)) := by rw [← hX]; exact (other_setCells (by omega) _ _ _).trans h.r3
  have a4 : AttsS X x L := by rw [← hX]; exact far_setCells (fun b hb => (hne b hb).1) _ _ _ hx
  have a5 : Since w X := by rw [← hX]; exact below_setCells (Nat.le_refl _) _ _ _ h.since
  rw [hX] at a1 ⊢
  clear hX e1 a2
  have b1 := row_setCells [q0, q1, q2, q3] 0 X Z4 a3
  have b2 : setA Z4 0 [q0, q1, q2, q3] = #[q0, q1, q2, q3] := by simp [setA, Z4]
  rw [b2] at b1
  have b3 : (X.setCells (w.heap.size + 1) 0 [q0, q1, q2, q3]).heap[w.heap.size]? = some (.cells (C9 l u m v e x P C G) 53 (0, 0)) := (other_setCells (by omega) _ _ _).trans a1
  have b4 : AttsS (X.setCells (w.heap.size + 1) 0 [q0, q1, q2, q3]) x L := far_setCells (fun b hb => (hne b hb).2) _ _ _ a4
  have b5 : Since w (X.setCells (w.heap.size + 1) 0 [q0, q1, q2, q3]) := below_setCells (by omega) _ _ _ a5
  generalize X.setCells (w.heap.size + 1) 0 [q0, q1, q2, q3] = Y at b1 b3 b4 b5 ⊢
  exact ⟨b3, b1, b4.since (Below.drew (Below.refl _ _)), b5.drew⟩
/-- a call that takes a block apart -/
def PostS (w : World) (l u m v e : ByteArray) (L : List A2) (P C G : ByteArray) (D M Z : Nat) (x : Ending) (w' : World) : Prop :=
  ∃ a, x = .returned (.tuple #[.agg (C9 l u m v e a P C G), .agg (CX D M Z), .int .i64 0]) ∧ AttsS w' a L ∧ Fresh w.heap.size a ∧ Below w.heap.size w w'
theorem far_rows {W : World} {v : Value} {L : List A2} (h : AttsS W v L) (g : Nat) (hne : ∀ b, v.blockOf = some b → b ≠ g) (C : Array Value) : AttsS (W.setRow g C) v L := by
  obtain ⟨h1, A, c, rfl, h2, h3, h4⟩ := h
  refine ⟨h1, A, c, rfl, h2, h3, ?_⟩
  rcases h4 with h4 | ⟨b, o, rfl, hlt, hc⟩
  · exact Or.inl h4
  · have hb := hne b rfl
    have ho := setRow_other W g b C hb
    refine Or.inr ⟨b, o, rfl, ?_, fun j u hu => ?_⟩
    · rcases Nat.lt_or_ge b (W.setRow g C).heap.size with h | h
      · exact h
      · rw [Array.getElem?_eq_none h, Array.getElem?_eq_getElem hlt] at ho; cases ho
    · rw [World.cell?_of_block (w := W) (w' := W.setRow g C) (show (W.setRow g C).heap[b]? = W.heap[b]? from ho)]
      exact hc j u hu
set_option maxRecDepth 100000 in
set_option maxHeartbeats 32000000 in
theorem spl_ok (s T : ByteArray) (h16 : (16 : Int) ≤ (s.size : Int)) (_h16' : 16 ≤ s.size) (hz : s.size ≤ 60000) (hT' : s.extract 16 s.size = T) (n k : Int) (l u m v e : ByteArray) (c1 : KMk KH 115 #[.string s] (.tuple #[.agg #[.int .i64 n, .string l, .int .i64 k, .string u, .string m, .string v, .string e], .int .i64 0]))
    (O : List Opt.P2) (N D M : Nat) (hN : ((N : Int) + 16) = (D : Int)) (hD0 : (0 : Int) ≤ (D : Int)) (hD : (D : Int) ≤ (s.size : Int)) (c2 : Opt.MkO 116 #[.string T, .int .i64 k] O (N : Int) 0) (L : List A2) (c3 : MkF 117 O L 0)
    (P R C G : ByteArray) (hP : s.extract 0 D = P) (hR : s.extract D s.size = R) (c4 : Mak 118 #[.string R] (.tuple #[.string C, .string G, .int .i64 0])) (hM : (s.size : Int) - 32 = (M : Int)) (hDM : D ≤ M) : ∀ w, KH w → Calls Tryz.prog 71 #[.string s] w (PostS w l u m v e L P C G D M s.size) := by
  intro w hT
  have s1 : Ret 119 #[.int .i64 0, .int .i64 16] (.complex .f64 (Flt.fl 0) (Flt.fl 16)) := Span.of_yes 0 16 ⟨by omega, by omega⟩
  have s2 : Ret 119 #[.int .i64 16, .int .i64 (D : Int)] (.complex .f64 (Flt.fl 16) (Flt.fl (D : Int))) := Span.of_yes 16 D ⟨by omega, by omega⟩
  have s3 : Ret 119 #[.int .i64 (D : Int), .int .i64 (M : Int)] (.complex .f64 (Flt.fl (D : Int)) (Flt.fl (M : Int))) := Span.of_yes D M ⟨by omega, by omega⟩
  have s4 : Ret 119 #[.int .i64 (M : Int), .int .i64 (s.size : Int)] (.complex .f64 (Flt.fl (M : Int)) (Flt.fl (s.size : Int))) := Span.of_yes M s.size ⟨by omega, by omega⟩
  have hs := Lib.hid (sp_new w hT)
  have HS := Lib.hid hs.out.since
  have HT0 := Lib.hid hT
  unfold Z9 Z4 at hs HS
  clear hT
  go_enter Tryz.func71, Tryz.ntmps71
  go_wp2_with fail
  refine wp_scope_some 1 ?_
  go_wp2_with fail
  refine (c1.calls0 hs.out.tabs) ?_
  intro w1 h1
  replace hs := Lib.hid (hs.out.step (by first | exact h1 | exact (Since.alloc (Since.refl _) _).step h1 | exact (Since.alloc (Since.alloc (Since.refl _) _) _).step h1 | exact (Since.drew (Since.refl _)).step h1 | exact (Since.alloc (Since.alloc (Since.alloc (Since.refl _) _) _) _).step h1))
  replace HS := Lib.hid (HS.out.step (by first | exact h1 | exact (Since.alloc (Since.refl _) _).step h1 | exact (Since.alloc (Since.alloc (Since.refl _) _) _).step h1 | exact (Since.drew (Since.refl _)).step h1 | exact (Since.alloc (Since.alloc (Since.alloc (Since.refl _) _) _) _).step h1))
  clear h1
  have hlt : w.heap.size + 1 + 1 < w1.heap.size := (Array.getElem?_eq_some_iff.1 hs.out.rf).1
  obtain ⟨W2, hW2⟩ : ∃ W2, W2 = w1.alloc (.cells #[.int .i64 n, .string l, .int .i64 k, .string u, .string m, .string v, .string e] 112) := ⟨_, rfl⟩
  have hp2 : Hid (HB w1 KT w1.heap.size #[.int .i64 n, .string l, .int .i64 k, .string u, .string m, .string v, .string e] W2) := Lib.hid (by rw [hW2]; exact hb_new w1 KT trivial _ _)
  replace hs : Hid (SP w _ W2) := Lib.hid (by rw [hW2]; exact hs.out.step ((Below.refl _ _).alloc (Nat.le_refl _) _))
  have f0 := row_cell? hs.out.rf 0 _ rfl
  have f1 := row_cell? hs.out.rf 1 _ rfl
  have f2 := row_cell? hs.out.rf 2 _ rfl
  have f3 := row_cell? hs.out.rf 3 _ rfl
  have f4 := row_cell? hs.out.rf 4 _ rfl
  have g0 := row_free hs.out.rf 0
  have g1 := row_free hs.out.rf 1
  have g2 := row_free hs.out.rf 2
  have g3 := row_free hs.out.rf 3
  have g4 := row_free hs.out.rf 4
  obtain ⟨_, q0, q1, q2, q3, q4, q5, q6⟩ := hb7 hp2
  have q9 := W6.far q2 (show w1.heap.size ≠ w.heap.size + 1 + 1 by omega) l u m v e
  have hs3 := Lib.hid (W6.sp hs.out HT0.out l u m v e)
  go_wp2_with fail
  rw [← hW2]
  clear hW2 HS
  go_region
  clear f0 f1 f2 f3 f4 g0 g1 g2 g3 g4 q0 q1 q2 q3 q4 q5 q6 hs hp2
  obtain ⟨W3, hW3⟩ : ∃ W3, W3 = W6 W2 (w.heap.size + 1 + 1) l u m v e := ⟨_, rfl⟩
  rw [← hW3] at hs3 q9
  unfold W6 at hW3
  rw [← hW3]
  clear hW3
  have hs := hs3
  have HS := Lib.hid hs.out.since
  clear hs3
  go_wp2_with fail
  go_region_law (go_simp; go_at_call 116; refine c2.calls0 ?_; intro o w4 ho h4; replace hs := Lib.hid (hs.out.step (by first | exact h4 | exact Since.step (Since.drew (Since.refl _)) h4)); replace HS := Lib.hid hs.out.since; have HO := Lib.hid ho; clear ho h4 q9)
  all_goals
    go_simp
    go_wp2_with fail
    refine c3.calls1 HO.out ?_
    intro a w5 ha h5
    have hfr := Lib.hid (show ∀ b, a.blockOf = some b → b ≠ w.heap.size + 1 + 1 from fresh_ne ha.2 (Array.getElem?_eq_some_iff.1 hs.out.rf).1)
    have hfq := Lib.hid (show ∀ b, a.blockOf = some b → b ≠ w.heap.size ∧ b ≠ w.heap.size + 1 from fun b hb => ⟨fresh_ne ha.2 (Array.getElem?_eq_some_iff.1 hs.out.r2).1 b hb, fresh_ne ha.2 (Array.getElem?_eq_some_iff.1 hs.out.r3).1 b hb⟩)
    have hfz := Lib.hid (show Fresh w.heap.size a from fun A' l' c' e' => Nat.le_trans (Below.size HS.out) (ha.2 A' l' c' e'))
    replace hs := Lib.hid (hs.out.step h5)
    have HA := Lib.hid ha.1
    obtain ⟨A, d, hav, _⟩ := ha.1.slice
    have f5 := row_cell? hs.out.rf 5 _ rfl
    have g5 := row_free hs.out.rf 5
    have hs6 := Lib.hid (hs.out.set HT0.out 5 a (C9 l u m v e a ⟨#[]⟩ ⟨#[]⟩ ⟨#[]⟩) (by simp [C9]))
    clear ha h5 HS HO
    subst hav
    have f6 := row_cell? hs.out.rf 6 _ rfl
    have g6 := row_free hs.out.rf 6
    have hs7 := Lib.hid (hs6.out.set HT0.out 6 (.string P) (C9 l u m v e (.slice A L.length d) P ⟨#[]⟩ ⟨#[]⟩) (by simp [C9]))
    have HA7 := Lib.hid (far_atts (far_atts HA.out (w.heap.size + 1 + 1) hfr.out 5 (.slice A L.length d)) (w.heap.size + 1 + 1) hfr.out 6 (.string P))
    clear HA hs hs6
    go_wp2_with fail
    refine c4.calls0 ?_
    intro w6 h6
    have hs := Lib.hid (hs7.out.step h6)
    have HA := Lib.hid (HA7.out.since h6)
    clear hs7 HA7 f5 g5 f6 g6 h6
    have f7 := row_cell? hs.out.rf 7 _ rfl
    have g7 := row_free hs.out.rf 7
    have f8 := row_cell? hs.out.rf 8 _ rfl
    have g8 := row_free hs.out.rf 8
    have hs8 := Lib.hid ((hs.out.set HT0.out 7 (.string C) (C9 l u m v e (.slice A L.length d) P C ⟨#[]⟩) (by simp [C9])).set HT0.out 8 (.string G) (C9 l u m v e (.slice A L.length d) P C G) (by simp [C9]))
    have HA8 := Lib.hid (far_atts (far_atts HA.out (w.heap.size + 1 + 1) hfr.out 7 (.string C)) (w.heap.size + 1 + 1) hfr.out 8 (.string G))
    go_wp2_with fail
    clear hs HA f7 g7 f8 g8
    obtain ⟨W4, hW4⟩ : ∃ W4, W4 = (w6.setCell ⟨w.heap.size + 1 + 1, 7, none⟩ (.string C)).setCell ⟨w.heap.size + 1 + 1, 8, none⟩ (.string G) := ⟨_, rfl⟩
    rw [← hW4] at hs8 HA8 ⊢
    clear hW4
    have hs := hs8
    have k0 : W4.cell? ⟨w.heap.size + 1 + 1, 0, none⟩ = some (.string l) := row_cell? hs.out.rf 0 _ rfl
    have k1 : W4.cell? ⟨w.heap.size + 1 + 1, 1, none⟩ = some (.string u) := row_cell? hs.out.rf 1 _ rfl
    have k2 : W4.cell? ⟨w.heap.size + 1 + 1, 2, none⟩ = some (.string m) := row_cell? hs.out.rf 2 _ rfl
    have k3 : W4.cell? ⟨w.heap.size + 1 + 1, 3, none⟩ = some (.string v) := row_cell? hs.out.rf 3 _ rfl
    have k4 : W4.cell? ⟨w.heap.size + 1 + 1, 4, none⟩ = some (.string e) := row_cell? hs.out.rf 4 _ rfl
    have k5 : W4.cell? ⟨w.heap.size + 1 + 1, 5, none⟩ = some (.slice A L.length d) := row_cell? hs.out.rf 5 _ rfl
    have k6 : W4.cell? ⟨w.heap.size + 1 + 1, 6, none⟩ = some (.string P) := row_cell? hs.out.rf 6 _ rfl
    have k7 : W4.cell? ⟨w.heap.size + 1 + 1, 7, none⟩ = some (.string C) := row_cell? hs.out.rf 7 _ rfl
    have k8 : W4.cell? ⟨w.heap.size + 1 + 1, 8, none⟩ = some (.string G) := row_cell? hs.out.rf 8 _ rfl
    have a0 := row_cell? hs.out.r2 0 _ rfl
    have b0 := row_free hs.out.r2 0
    have a1 := row_cell? hs.out.r2 1 _ rfl
    have b1 := row_free hs.out.r2 1
    have a2 := row_cell? hs.out.r2 2 _ rfl
    have b2 := row_free hs.out.r2 2
    have a3 := row_cell? hs.out.r2 3 _ rfl
    have b3 := row_free hs.out.r2 3
    have a4 := row_cell? hs.out.r2 4 _ rfl
    have b4 := row_free hs.out.r2 4
    have a5 := row_cell? hs.out.r2 5 _ rfl
    have b5 := row_free hs.out.r2 5
    have a6 := row_cell? hs.out.r2 6 _ rfl
    have b6 := row_free hs.out.r2 6
    have a7 := row_cell? hs.out.r2 7 _ rfl
    have b7 := row_free hs.out.r2 7
    have a8 := row_cell? hs.out.r2 8 _ rfl
    have b8 := row_free hs.out.r2 8
    have x0 := row_cell? hs.out.r3 0 _ rfl
    have y0 := row_free hs.out.r3 0
    have x1 := row_cell? hs.out.r3 1 _ rfl
    have y1 := row_free hs.out.r3 1
    have x2 := row_cell? hs.out.r3 2 _ rfl
    have y2 := row_free hs.out.r3 2
    have x3 := row_cell? hs.out.r3 3 _ rfl
    have y3 := row_free hs.out.r3 3
    have hs0 := hs
    clear hs hs8
    go_region_law (first
      | (go_simp; go_at_call 119; with_reducible refine s1.calls ?_)
      | (go_simp; go_at_call 119; with_reducible refine s2.calls ?_)
      | (go_simp; go_at_call 119; with_reducible refine s3.calls ?_)
      | (go_simp; go_at_call 119; with_reducible refine s4.calls ?_))
    all_goals
      go_simp
      go_wp2_with fail
      have hfin := W13.facts hs0.out l u m v e (.slice A L.length d) P C G (.complex .f64 (Flt.fl 0) (Flt.fl 16)) (.complex .f64 (Flt.fl 16) (Flt.fl (D : Int))) (.complex .f64 (Flt.fl (D : Int)) (Flt.fl (M : Int))) (.complex .f64 (Flt.fl (M : Int)) (Flt.fl (s.size : Int))) HA8.out hfq.out
      obtain ⟨y1, y2, y3, y4⟩ := hfin
      simp only [Exit.jumps]
      exact bodyPost_ret (v := .tuple #[.agg (C9 l u m v e (.slice A L.length d) P C G), .agg (CX D M s.size), .int .i64 0]) (results_cc_tmp Tryz.results71 _ _ _ _ _ _ _ _ _ _ _ _ _ rfl rfl rfl y1 y2 Tryz.underlying53 rfl (c9_info _ _ _ _ _ _ _ _ _) Tryz.underlying85 rfl (cx_info _ _ _)) rfl ⟨_, rfl, y3, hfz.out, y4⟩
end Frame
end Go.Proofs.YtddlaafpianjbaaGreatDoor

/- Package frame: what is taken apart, whole; Cut. -/
namespace Go.Proofs.YtddlaafpianjbaaGreatDoor
open Go.RowKit
namespace Frame
open Att Templ Header
def cutK (s : ByteArray) : Int := (Dig.numD (s.extract 12 14).data.toList : Int)
def cutT (s : ByteArray) : ByteArray := s.extract 16 s.size
def cutO (s : ByteArray) : List Opt.P2 := Opt.unpL (cutT s) (cutK s)
def cutD (s : ByteArray) : Nat := 16 + (Opt.unpN (cutT s) (cutK s)).toNat
def cutR (s : ByteArray) : List UInt8 := (s.extract (cutD s) s.size).data.toList
def cutE (s : ByteArray) : Int := if begE s ≠ 0 then begE s else if Opt.unpE (cutT s) (cutK s) ≠ 0 then Opt.unpE (cutT s) (cutK s) else if fE (cutO s) ≠ 0 then fE (cutO s) else selE (cutR s)
theorem beg_ok0 (s : ByteArray) (h : begE s = 0) : 16 ≤ s.size ∧ s.size ≤ 9999 ∧ Header.decV s = C7 (Dig.numD (s.extract 1 5).data.toList : Int) (cutK s) (s.extract 7 8) (s.extract 5 7) (s.extract 8 9) (s.extract 9 11) (s.extract 11 12) ∧ Header.Form s ∧ Header.okS s = true ∧ Dig.numD (s.extract 1 5).data.toList = s.size := by
  unfold begE at h
  by_cases h0 : s.size = 0
  · rw [if_pos h0] at h; cases h
  by_cases h9 : 9999 < s.size
  · rw [if_neg h0, if_pos h9] at h; cases h
  rw [if_neg h0, if_neg h9] at h
  by_cases hE : Header.decE s = 0
  · rw [if_neg (fun h2 => h2 hE)] at h
    by_cases hn : Dig.numD (s.extract 1 5).data.toList = s.size
    · rcases dec_cases s with ⟨h2, _⟩ | ⟨_, hF, hk⟩
      · exact absurd hE h2
      · exact ⟨hF.1, by omega, if_pos ⟨hF, hk⟩, hF, hk, hn⟩
    · rw [if_pos hn] at h; cases h
  · rw [if_pos hE] at h; exact absurd h hE
theorem unp_bounds (s : ByteArray) (m : Int) (h : Opt.unpE s m = 0) : 0 ≤ Opt.unpN s m ∧ Opt.unpN s m ≤ s.size ∧ ∀ p ∈ Opt.unpL s m, p.2.size ≤ s.size := by
  cases hu : Opt.unpOk s m with
  | none => rw [(Opt.unp_no s m hu).2.2] at h; cases h
  | some q =>
    obtain ⟨L, A⟩ := q
    obtain ⟨e1, e2, e3⟩ := Opt.unp_yes s m L A hu
    rw [e1, e2]
    obtain ⟨_, _, _, h4, _, h6⟩ := Opt.unp_some s m L A hu
    exact ⟨by omega, by omega, fun p hp => (h6 p hp).2⟩
theorem sel_bounds (t : List UInt8) (h : selE t = 0) : 64 ≤ t.length := by
  unfold selE at h
  split at h
  · rename_i hk
    unfold okT at hk
    simp only [Bool.and_eq_true, decide_eq_true_eq] at hk
    have := unS_le t
    omega
  · cases h
theorem cut_facts (s : ByteArray) (h : cutE s = 0) : begE s = 0 ∧ Opt.unpE (cutT s) (cutK s) = 0 ∧ fE (cutO s) = 0 ∧ selE (cutR s) = 0 := by
  unfold cutE at h
  by_cases hb : begE s = 0
  · rw [if_neg (fun h2 => h2 hb)] at h
    by_cases hu : Opt.unpE (cutT s) (cutK s) = 0
    · rw [if_neg (fun h2 => h2 hu)] at h
      by_cases hf : fE (cutO s) = 0
      · rw [if_neg (fun h2 => h2 hf)] at h
        exact ⟨hb, hu, hf, h⟩
      · rw [if_pos hf] at h; exact absurd h hf
    · rw [if_pos hu] at h; exact absurd h hu
  · rw [if_pos hb] at h; exact absurd h hb
theorem cut_sizes (s : ByteArray) (h : cutE s = 0) : 16 ≤ cutD s ∧ cutD s + 64 ≤ s.size ∧ s.size ≤ 9999 ∧ Opt.unpN (cutT s) (cutK s) = ((Opt.unpN (cutT s) (cutK s)).toNat : Int) := by
  obtain ⟨h1, h2, h3, h4⟩ := cut_facts s h
  obtain ⟨h16, h9, hv, hF, hk, hn⟩ := beg_ok0 s h1
  obtain ⟨u1, u2, u3⟩ := unp_bounds _ _ h2
  have h5 := sel_bounds _ h4
  have hl : (cutR s).length = s.size - cutD s := by
    have : (cutR s).length = (s.extract (cutD s) s.size).size := rfl
    rw [this, ByteArray.size_extract]; omega
  have hTz : (cutT s).size = s.size - 16 := by unfold cutT; rw [ByteArray.size_extract]; omega
  refine ⟨by unfold cutD; omega, by omega, h9, by omega⟩
set_option maxRecDepth 100000 in
theorem split_ok (s : ByteArray) (h : cutE s = 0) : ∀ w, KH w → Calls Tryz.prog 71 #[.string s] w (PostS w (s.extract 7 8) (s.extract 5 7) (s.extract 8 9) (s.extract 9 11) (s.extract 11 12) (fL (cutO s)) (s.extract 0 (cutD s)) (selC (cutR s)) (selT (cutR s)) (cutD s) (s.size - 32) s.size) := by
  obtain ⟨h1, h2, h3, h4⟩ := cut_facts s h
  obtain ⟨d1, d2, d3, d4⟩ := cut_sizes s h
  obtain ⟨h16, h9, hv, hF, hk, hn⟩ := beg_ok0 s h1
  obtain ⟨u1, u2, u3⟩ := unp_bounds _ _ h2
  have c1 := begin_k s (by omega)
  rw [h1, show begV s = Header.decV s from if_pos h1, hv] at c1
  have hTz : (cutT s).size = s.size - 16 := by unfold cutT; rw [ByteArray.size_extract]; omega
  have c2 := Opt.unpack_any (cutT s) (by omega) (cutK s) _ _ _ rfl rfl rfl
  rw [h2, d4] at c2
  have c3 := from_mk (cutO s) (fun p hp => by have := u3 p hp; omega) decode_mk
  rw [h3] at c3
  have c4 := sealed_mak (s.extract (cutD s) s.size) (by rw [ByteArray.size_extract]; omega)
  unfold selV at c4
  have h4' : selE (s.extract (cutD s) s.size).data.toList = 0 := h4
  rw [h4'] at c4
  exact spl_ok s (cutT s) (by omega) h16 (by omega) rfl _ _ _ _ _ _ _ c1 _ (Opt.unpN (cutT s) (cutK s)).toNat (cutD s) (s.size - 32) (by unfold cutD; omega) (by omega) (by omega) c2 _ c3 _ _ _ _ rfl rfl c4 (by omega) (by omega)
/-- what Cut answers -/
def PostC (w : World) (s : ByteArray) (x : Ending) (w' : World) : Prop :=
  ∃ a, x = .returned (.tuple #[.agg (C9 (s.extract 7 8) (s.extract 5 7) (s.extract 8 9) (s.extract 9 11) (s.extract 11 12) a (s.extract 0 (cutD s)) (selC (cutR s)) (selT (cutR s))), .int .i64 0]) ∧ AttsS w' a (fL (cutO s)) ∧ Below w.heap.size w w' ∧ Fresh w.heap.size a
set_option maxRecDepth 100000 in
set_option maxHeartbeats 4000000 in
theorem cut_good (s : ByteArray) (h : cutE s = 0) : ∀ w, KH w → Calls Tryz.prog 34 #[.string s] w (PostC w s) := by
  intro w hT
  have c1 := split_ok s h
  unfold PostC
  obtain ⟨l, hl⟩ : ∃ l, s.extract 7 8 = l := ⟨_, rfl⟩
  obtain ⟨u, hu⟩ : ∃ l, s.extract 5 7 = l := ⟨_, rfl⟩
  obtain ⟨m, hm⟩ : ∃ l, s.extract 8 9 = l := ⟨_, rfl⟩
  obtain ⟨v, hv⟩ : ∃ l, s.extract 9 11 = l := ⟨_, rfl⟩
  obtain ⟨e, he⟩ : ∃ l, s.extract 11 12 = l := ⟨_, rfl⟩
  obtain ⟨P, hP⟩ : ∃ l, s.extract 0 (cutD s) = l := ⟨_, rfl⟩
  obtain ⟨C, hC⟩ : ∃ l, selC (cutR s) = l := ⟨_, rfl⟩
  obtain ⟨G, hG⟩ : ∃ l, selT (cutR s) = l := ⟨_, rfl⟩
  obtain ⟨L, hL⟩ : ∃ l, fL (cutO s) = l := ⟨_, rfl⟩
  obtain ⟨D, hD⟩ : ∃ l, cutD s = l := ⟨_, rfl⟩
  obtain ⟨M, hM⟩ : ∃ l, s.size - 32 = l := ⟨_, rfl⟩
  rw [hD] at hP
  rw [hD, hM, hl, hu, hm, hv, he, hP, hC, hG, hL] at c1
  rw [hD, hl, hu, hm, hv, he, hP, hC, hG, hL]
  clear hl hu hm hv he hP hC hG hL hD hM h
  have hr : Hid (HR w w.heap.size Z9 53 (w.alloc (.cells Z9 53))) := Lib.hid ⟨heap_alloc_new w _⟩
  have HS : Hid (Since w (w.alloc (.cells Z9 53))) := Lib.hid ((Since.refl w).alloc _)
  have HT : Hid (KH (w.alloc (.cells Z9 53))) := Lib.hid (Kp.keep hT ((Below.refl _ w).alloc (Nat.le_refl _) _))
  have HC := Lib.hid c1
  unfold Z9 at HT
  clear hT c1
  go_enter Tryz.func34, Tryz.ntmps34
  go_wp2_with fail
  refine (HC.out _ HT.out).mono ?_
  rintro x w1 ⟨a, rfl, ha, hf, h1⟩
  replace hr := Lib.hid (hr.out.step h1)
  replace HS := Lib.hid (HS.out.step h1)
  have hlt : w.heap.size < (w.alloc (.cells Z9 53)).heap.size := by simp
  have hfr := Lib.hid (show Fresh w.heap.size a from fun A' l' c' e' => Nat.le_trans (Nat.le_of_lt hlt) (hf A' l' c' e'))
  have hne : Hid (∀ b, a.blockOf = some b → b ≠ w.heap.size) := Lib.hid (fresh_ne hf hlt)
  have HA := Lib.hid (far_rows ((ha.since ((Since.refl _).alloc (.cells (C9 l u m v e a P C G) 53))).since ((Since.refl _).alloc (.cells (CX D M s.size) 85))) w.heap.size hne.out (C9 l u m v e a P C G))
  obtain ⟨A, d, hav, _⟩ := ha.slice
  subst hav
  clear h1 HT ha hf hlt HC
  unfold C9 CX
  have hr2 : Hid (HR w w.heap.size Z9 53 ((w1.alloc (.cells (C9 l u m v e (.slice A L.length d) P C G) 53)).alloc (.cells (CX D M s.size) 85))) := Lib.hid (hr_old (hr_old hr.out _) _)
  have HS2 := Lib.hid ((HS.out.alloc (.cells (C9 l u m v e (.slice A L.length d) P C G) 53)).alloc (.cells (CX D M s.size) 85))
  clear hr HS
  unfold Z9 C9 CX at hr2 HS2
  go_wp2_with (refine wpList_store_row rfl 53 _ _ rfl w.heap.size (C9 l u m v e (.slice A L.length d) P C G) (by rfl) (by rfl) _ _ hr2.out.row (c9_info _ _ _ _ _ _ _ _ _) rfl (c9_one _ _ _ _ _ _ _ _ _ _ _) ?_)
  exact bodyPost_ret (v := .tuple #[.agg (C9 l u m v e (.slice A L.length d) P C G), .int .i64 0]) (results_cell_tmp2 Tryz.results34 _ _ _ _ _ _ _ _ rfl rfl (setRow_heap _ _ _ _ _ _ hr2.out.row) Tryz.underlying53 rfl (c9_info _ _ _ _ _ _ _ _ _)) rfl ⟨_, rfl, HA.out, below_setRow HS2.out (Nat.le_refl _) _, hfr.out⟩
end Frame
end Go.Proofs.YtddlaafpianjbaaGreatDoor

/- Package frame: what is put together is cut as it was; what is cut, put together again, is what it was: plain mathematics. -/
namespace Go.Proofs.YtddlaafpianjbaaGreatDoor
open Go.RowKit
namespace Frame
open Att Templ Header
theorem sign_data : ∀ d : Fin 16, Opt.dataN (Dig.sign d.1).toNat = true := by decide
theorem hex_data (l : List UInt8) : Opt.allB Opt.dataN (Dig.hexL l) = true := by
  induction l with
  | nil => rfl
  | cons c l ih =>
    have hc := c.toNat_lt
    have e : Dig.hexL (c :: l) = Dig.sign (c.toNat / 16) :: Dig.sign (c.toNat % 16) :: Dig.hexL l := rfl
    have h1 := sign_data ⟨c.toNat / 16, by omega⟩
    have h2 := sign_data ⟨c.toNat % 16, by omega⟩
    rw [e]
    unfold Opt.allB at ih ⊢
    rw [List.all_cons, List.all_cons, ih]
    simp only at h1 h2
    rw [h1, h2]; rfl
theorem may_ten (L : List A2) (h : (encT L).size ≤ 9000) : Opt.may TEN (encT L) = true := by
  unfold Opt.may
  have h1 : decide (TEN.size = 2) = true := by decide
  have h2 : Opt.allB Opt.idN TEN.data.toList = true := by decide
  have h3 : Opt.allB Opt.dataN (encT L).data.toList = true := by
    unfold encT
    split
    · rw [list_bs]; exact hex_data _
    · rfl
  rw [h1, h2, h3, decide_eq_true h]; rfl
theorem pack_ok (L : List A2) : Opt.packOk (oL L) = true := by
  unfold oL
  split
  · rename_i h
    have hm := may_ten L h.2.2
    have hs := Opt.enc_size TEN (encT L) hm
    have e1 : Opt.okN [(TEN, encT L)] 1 = true := by
      rw [Opt.okN_succ [(TEN, encT L)] 0 (TEN, encT L) rfl]
      have : Opt.stepB [(TEN, encT L)] 0 (TEN, encT L) = (Opt.may TEN (encT L) && !decide (TEN = Opt.PB) && !Opt.hasB [] TEN) := rfl
      rw [this, hm, show decide (TEN = Opt.PB) = false by decide]
      rfl
    have hc : (Opt.catP [(TEN, encT L)]).size ≤ 9010 := by
      have : Opt.catP [(TEN, encT L)] = Opt.enc TEN (encT L) := by
        apply ba_ext
        unfold Opt.catP Opt.encs
        rw [list_bs]
        simp [Oct.cat]
      rw [this, hs]; split <;> omega
    have hp : (Opt.padP [(TEN, encT L)]).size ≤ 300 := Opt.padV_size _
    unfold Opt.packOk Opt.cntP
    rw [show ([(TEN, encT L)] : List P2).length = 1 from rfl, e1]
    simp only [Bool.true_and, Bool.and_eq_true, decide_eq_true_eq]
    exact ⟨by split <;> omega, by omega⟩
  · decide +kernel
theorem pk_size (L : List A2) : (pk L).size ≤ 9999 := by
  have h := pack_ok L
  unfold pk
  rw [Opt.packX_size _ h]
  unfold Opt.packOk at h
  simp only [Bool.and_eq_true, decide_eq_true_eq] at h
  exact h.2
theorem packE_ok (L : List A2) : Opt.packE (oL L) = 0 := (Opt.packE_zero _).2 (pack_ok L)
theorem packN_b (L : List A2) : 0 ≤ Opt.packN (oL L) ∧ Opt.packN (oL L) ≤ 98 := by
  have h := pack_ok L
  rw [Opt.packN_ok _ h]
  unfold Opt.packOk at h
  simp only [Bool.and_eq_true, decide_eq_true_eq] at h
  omega
structure TopOk (l u m v e : ByteArray) (L : List A2) (n : Int) : Prop where
  bad : badN l n = false
  ok : Table.okB u.data.toList m.data.toList v.data.toList e.data.toList l.data.toList = true
  oe : oE L = 0
  most : Kind.mostN l.data.toList ≠ 0
  n16 : 16 ≤ n
  n40 : n ≤ 4096
  nm : n % 16 = 0
  z9 : topN L n ≤ 9999
theorem top_ok_iff (l u m v e : ByteArray) (L : List A2) (n : Int) (h : topE l u m v e L n = 0) : TopOk l u m v e L n := by
  unfold topE at h
  cases hb : badN l n with
  | true => rw [hb, if_pos rfl] at h; cases h
  | false =>
    rw [hb, if_neg (by decide)] at h
    cases hk : Table.okB u.data.toList m.data.toList v.data.toList e.data.toList l.data.toList with
    | false => rw [hk, if_pos rfl] at h; cases h
    | true =>
      rw [hk, if_neg (by decide)] at h
      by_cases ho : oE L = 0
      · rw [if_neg (fun h2 => h2 ho), if_neg (fun h2 => h2 (packE_ok L))] at h
        by_cases hz : 9999 < topN L n
        · rw [if_pos hz] at h; cases h
        · have hb2 := hb
          unfold badN at hb2
          simp only [Bool.or_eq_false_iff, decide_eq_false_iff_not] at hb2
          exact ⟨hb, hk, ho, hb2.1.1.1, by omega, by omega, by omega, by omega⟩
      · rw [if_pos ho] at h; exact absurd h ho
theorem TopOk.inN {l u m v e : ByteArray} {L : List A2} {n : Int} (h : TopOk l u m v e L n) : InN (topN L n) (Opt.packN (oL L)) l.data.toList := by
  have hp := packN_b L
  have := h.n16
  have := h.z9
  exact ⟨by unfold topN; omega, h.z9, hp.1, by omega, h.most⟩
theorem c7_inj {n k n' k' : Int} {l u m v e l' u' m' v' e' : ByteArray} (h : C7 n k l u m v e = C7 n' k' l' u' m' v' e') : n = n' ∧ k = k' ∧ l = l' ∧ u = u' ∧ m = m' ∧ v = v' ∧ e = e' := by
  unfold C7 at h
  simp only [Array.mk.injEq, List.cons.injEq, Value.int.injEq, Value.string.injEq, and_true, true_and] at h
  obtain ⟨h1, h2, h3, h4, h5, h6, h7⟩ := h
  exact ⟨h1, h3, h2, h4, h5, h6, h7⟩
/-- what was put together is cut so -/
theorem cut_top (l u m v e : ByteArray) (L : List A2) (c g : ByteArray) (h : topE l u m v e L (c.size : Int) = 0) (hg : g.size = 16) (s : ByteArray) (hs : s = joinX (topX l u m v e L (c.size : Int)) c g) :
    cutE s = 0 ∧ s.extract 7 8 = l ∧ s.extract 5 7 = u ∧ s.extract 8 9 = m ∧ s.extract 9 11 = v ∧ s.extract 11 12 = e ∧ fL (cutO s) = L ∧ s.extract 0 (cutD s) = topX l u m v e L (c.size : Int) ∧ selC (cutR s) = c ∧ selT (cutR s) = g := by
  have ht := top_ok_iff l u m v e L _ h
  have hin := ht.inN
  have hX : topX l u m v e L (c.size : Int) = encX (topN L (c.size : Int)) (Opt.packN (oL L)) l u m v e ++ pk L := by unfold topX; rw [if_pos h]
  have hcl : c.data.toList.length = c.size := rfl
  have hgl : g.data.toList.length = g.size := rfl
  obtain ⟨R, hR⟩ : ∃ R, bs (Dig.hexL c.data.toList) ++ bs (Dig.hexL g.data.toList) = R := ⟨_, rfl⟩
  have hRl : R.data.toList = Dig.hexL (c.data.toList ++ g.data.toList) := by rw [← hR, app_list, list_bs, list_bs]; unfold Dig.hexL; rw [List.flatMap_append]
  have hRs : R.size = 2 * (c.size + 16) := by
    show R.data.toList.length = _
    rw [hRl, Dig.hexL_len, List.length_append, hcl, hgl, hg]
  have hs2 : s = encX (topN L (c.size : Int)) (Opt.packN (oL L)) l u m v e ++ (pk L ++ R) := by
    rw [hs]; unfold joinX
    rw [hX, ← hR]; simp only [Opt.app_assoc]
  obtain ⟨z1, z2, z3⟩ := Header.dec_enc (topN L (c.size : Int)) (Opt.packN (oL L)) l u m v e (pk L ++ R) hin ht.ok
  rw [← hs2] at z2 z3
  have hsz : (s.size : Int) = topN L (c.size : Int) := by
    rw [hs2, ByteArray.size_append, ByteArray.size_append, z1, hRs]; unfold topN; omega
  have h9 := ht.z9
  have hpos : 48 ≤ s.size := by have := ht.n16; have h8 := hsz; unfold topN at h8; omega
  rcases dec_cases s with ⟨q, _⟩ | ⟨_, hF, hk⟩
  · exact absurd z2 q
  have hv : Header.decV s = C7 (Dig.numD (s.extract 1 5).data.toList : Int) (Dig.numD (s.extract 12 14).data.toList : Int) (s.extract 7 8) (s.extract 5 7) (s.extract 8 9) (s.extract 9 11) (s.extract 11 12) := if_pos ⟨hF, hk⟩
  rw [hv] at z3
  obtain ⟨i1, i2, i3, i4, i5, i6, i7⟩ := c7_inj z3
  have hbeg : begE s = 0 := by
    unfold begE
    rw [if_neg (by omega), if_neg (by omega), if_neg (fun h2 => h2 z2), if_neg (fun h2 => h2 (by omega))]
  have hT : cutT s = pk L ++ R := Opt.ext_suf s _ _ hs2 16 z1
  have hK : cutK s = Opt.packN (oL L) := i2
  have hun : Opt.unpOk (cutT s) (cutK s) = some (oL L, (pk L).size) := by
    rw [hK]; exact Opt.unp_fwd (oL L) (pack_ok L) R _ hT
  obtain ⟨e1, e2, e3⟩ := Opt.unp_yes _ _ _ _ hun
  have hD : cutD s = 16 + (pk L).size := by unfold cutD; rw [e2, Int.toNat_natCast]
  have hO : cutO s = oL L := e1
  obtain ⟨f1, f2⟩ := from_opt L ht.oe
  have hRR : s.extract (cutD s) s.size = R := by
    refine Opt.ext_suf s (encX (topN L (c.size : Int)) (Opt.packN (oL L)) l u m v e ++ pk L) R (by rw [hs2, Opt.app_assoc]) _ ?_
    rw [ByteArray.size_append, z1, hD]
  have hcr : cutR s = Dig.hexL (c.data.toList ++ g.data.toList) := by unfold cutR; rw [hRR, hRl]
  have hub := unB_hex (c.data.toList ++ g.data.toList)
  have hus : Dig.unS (Dig.hexL (c.data.toList ++ g.data.toList)) = c ++ g := by
    apply ba_ext
    rw [unS_hex, app_list]
  have hn16 := ht.n16
  have hnm := ht.nm
  have hsel : okT (cutR s) = true := by
    rw [hcr]; unfold okT
    rw [hub, hus, ByteArray.size_append, hg, decide_eq_true (by omega), decide_eq_true (by omega)]; rfl
  refine ⟨?_, i3, i4, i5, i6, i7, by rw [hO, f1], ?_, ?_, ?_⟩
  · unfold cutE
    rw [if_neg (fun h2 => h2 hbeg), if_neg (fun h2 => h2 e3), if_neg (fun h2 => h2 (by rw [hO]; exact f2))]
    unfold selE; rw [if_pos hsel]
  · rw [hX]
    refine Opt.ext_pre s _ R (by rw [hs2, Opt.app_assoc]) _ ?_
    rw [ByteArray.size_append, z1, hD]
  · unfold selC
    rw [if_pos hsel, hcr, hus, ByteArray.size_append, hg, show c.size + 16 - 16 = c.size by omega]
    exact Opt.ext_pre _ c g rfl _ rfl
  · unfold selT
    rw [if_pos hsel, hcr, hus]
    rw [show (c ++ g).size - 16 = c.size by rw [ByteArray.size_append, hg]; omega]
    exact Opt.ext_suf _ c g rfl _ rfl
end Frame
end Go.Proofs.YtddlaafpianjbaaGreatDoor

/- Package frame: Parts; what the laws of layer 34 call awake. -/
namespace Go.Proofs.YtddlaafpianjbaaGreatDoor
open Go.RowKit
namespace Frame
open Att Templ Header
/-- what Parts answers -/
def PostP4 (w : World) (D M Z : Nat) (x : Ending) (w' : World) : Prop :=
  ∃ g, x = .returned (.slice (some ⟨g, 0, none⟩) 4 4) ∧ g < w'.heap.size ∧ (∀ i v, (CX D M Z)[i]? = some v → w'.cell? ⟨g, i, none⟩ = some v) ∧ Below w.heap.size w w'
end Frame
end Go.Proofs.YtddlaafpianjbaaGreatDoor

/- Package frame: Top, whole. -/
namespace Go.Proofs.YtddlaafpianjbaaGreatDoor
open Go.RowKit
namespace Frame
open Att Templ Header
theorem top_e {l u m v e : ByteArray} {L : List A2} {n : Int} (E : Int) (hE : topE l u m v e L n = E) (h : E ≠ 0) (k : RdT l u m v e L n (.tuple #[.string ⟨#[]⟩, .int .i64 E])) : RdT l u m v e L n (.tuple #[.string (topX l u m v e L n), .int .i64 (topE l u m v e L n)]) := by
  have hX : topX l u m v e L n = ⟨#[]⟩ := by unfold topX; rw [hE, if_neg h]
  rw [hX, hE]; exact k
theorem ol_small (L : List A2) : (oL L).length ≤ 600 ∧ ∀ p ∈ oL L, p.1.size ≤ 1000000 ∧ p.2.size ≤ 1000000 := by
  unfold oL
  split
  · refine ⟨by simp, fun p hp => ?_⟩
    have hp2 := List.mem_singleton.1 hp
    subst hp2
    have := encT_size L
    exact ⟨by show TEN.size ≤ _; decide, by show (encT L).size ≤ _; omega⟩
  · exact ⟨by simp, fun p hp => by cases hp⟩
theorem top_any (l u m v e : ByteArray) (L : List A2) (n : Int) (hz : u.size ≤ 100 ∧ m.size ≤ 100 ∧ v.size ≤ 100 ∧ e.size ≤ 100) : RdT l u m v e L n (.tuple #[.string (topX l u m v e L n), .int .i64 (topE l u m v e L n)]) := by
  have c1 := most_h l _ rfl
  by_cases h0 : Kind.mostN l.data.toList = 0
  · refine top_e 1 ?_ (by decide) (top_b1 l u m v e L n _ c1 (beq_iff_eq.2 h0))
    unfold topE badN; rw [decide_eq_true h0]; rfl
  have t0 : (Kind.mostN l.data.toList == 0) = false := beq_eq_false_iff_ne.2 h0
  by_cases h16 : n < 16
  · refine top_e 1 ?_ (by decide) (top_b2 l u m v e L n _ c1 t0 (decide_eq_true h16))
    unfold topE badN; rw [decide_eq_true h16, Bool.or_true]; rfl
  have t16 : decide (n < 16) = false := decide_eq_false h16
  by_cases h40 : 4096 < n
  · refine top_e 1 ?_ (by decide) (top_b3 l u m v e L n _ c1 t0 t16 (decide_eq_true h40))
    unfold topE badN; rw [decide_eq_true h40, Bool.or_true]; rfl
  have t40 : decide (4096 < n) = false := decide_eq_false h40
  have em : n.tmod 16 = n % 16 := Int.tmod_eq_emod_of_nonneg (by omega)
  by_cases hm : n % 16 = 0
  case neg =>
    refine top_e 1 ?_ (by decide) (top_b4 l u m v e L n _ c1 t0 t16 t40 (by rw [em]; exact bne_iff_ne.2 hm))
    unfold topE badN; rw [decide_eq_true hm, Bool.or_true]; rfl
  have hbad : badN l n = false := by
    unfold badN
    rw [decide_eq_false h0, t16, t40, decide_eq_false (fun h => h hm)]; rfl
  have tm : (n.tmod 16 != 0) = false := by rw [em]; exact bne_eq_false_iff_eq.2 hm
  by_cases hk : Table.okB u.data.toList m.data.toList v.data.toList e.data.toList l.data.toList = true
  case neg =>
    have hkf : Table.okB u.data.toList m.data.toList v.data.toList e.data.toList l.data.toList = false := by
      cases h : Table.okB u.data.toList m.data.toList v.data.toList e.data.toList l.data.toList with
      | true => exact absurd h hk
      | false => rfl
    refine top_e 12 ?_ (by decide) (top_b5 l u m v e L n _ c1 t0 t16 t40 tm (check_h u m v e l 12 (by rw [hkf]; rfl)))
    unfold topE; rw [hbad, if_neg (by decide), if_pos hkf]
  have c2 := check_h u m v e l 0 (by rw [hk]; rfl)
  have hkn : ¬ Table.okB u.data.toList m.data.toList v.data.toList e.data.toList l.data.toList = false := by rw [hk]; decide
  have c3 := options_mk L
  by_cases ho : oE L = 0
  case neg =>
    refine top_e (oE L) ?_ ho (top_b6 l u m v e L n ⟨by omega, by omega⟩ _ c1 t0 hm c2 _ _ c3 (beq_eq_false_iff_ne.2 ho))
    unfold topE; rw [hbad, if_neg (by decide), if_neg hkn, if_pos ho]
  rw [ho] at c3
  have c4 := Opt.pack_any (oL L) (ol_small L).1 (ol_small L).2
  unfold Opt.packV at c4
  rw [packE_ok L] at c4
  have hps := pk_size L
  by_cases h9 : 9999 < topN L n
  · refine top_e 4 ?_ (by decide) (top_b8 l u m v e L n ⟨by omega, by omega⟩ _ c1 t0 hm c2 _ c3 (pk L) (by omega) _ c4 (topN L n) rfl h9)
    unfold topE; rw [hbad, if_neg (by decide), if_neg hkn, if_neg (fun h => h ho), if_neg (fun h => h (packE_ok L)), if_pos h9]
  have hE : topE l u m v e L n = 0 := by
    unfold topE; rw [hbad, if_neg (by decide), if_neg hkn, if_neg (fun h => h ho), if_neg (fun h => h (packE_ok L)), if_neg h9]
  have hX : topX l u m v e L n = encX (topN L n) (Opt.packN (oL L)) l u m v e ++ pk L := by unfold topX; rw [if_pos hE]
  have ht := top_ok_iff l u m v e L n hE
  have hin := ht.inN
  have c5 := enc_any (topN L n) (Opt.packN (oL L)) l u m v e hz _ 0 rfl (by unfold encE; rw [if_pos hin, if_pos hk])
  obtain ⟨z1, _, _⟩ := Header.dec_enc (topN L n) (Opt.packN (oL L)) l u m v e ⟨#[]⟩ hin hk
  rw [hE, hX]
  exact top_ok l u m v e L n ⟨by omega, by omega⟩ _ c1 t0 hm c2 _ c3 (pk L) (by omega) _ c4 (topN L n) rfl (by omega) _ _ c5 rfl (by rw [ByteArray.size_append, z1]; omega)
end Frame
end Go.Proofs.YtddlaafpianjbaaGreatDoor

/- Package frame: Cut and Parts as contracts; what the laws of layer 34 call awake. -/
namespace Go.Proofs.YtddlaafpianjbaaGreatDoor
open Go.RowKit
namespace Frame
open Att Templ Header
/-- a text has these parts -/
def CutOk (s l u m v e : ByteArray) (L : List A2) (P C G : ByteArray) : Prop := ∀ w, KH w → Calls Tryz.prog 34 #[.string s] w fun x w' => ∃ a, x = .returned (.tuple #[.agg (C9 l u m v e a P C G), .int .i64 0]) ∧ AttsS w' a L ∧ Below w.heap.size w w'
def S16 : ByteArray := ⟨#[68, 48, 48, 56, 48, 75, 48, 65, 66, 48, 48, 69, 48, 48, 48, 48]⟩
def K16 : ByteArray := ⟨#[48, 49, 50, 51, 52, 53, 54, 55, 56, 57, 97, 98, 99, 100, 101, 102]⟩
def T16 : ByteArray := ⟨#[102, 101, 100, 99, 98, 97, 57, 56, 55, 54, 53, 52, 51, 50, 49, 48]⟩
end Frame
end Go.Proofs.YtddlaafpianjbaaGreatDoor
