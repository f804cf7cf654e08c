/- Joined texts. -/
-- PACK: YtapjmbjoklppnaaGreatDoorRefFrame YtapjmbjoklppnaaGreatDoorRefFrame2
import Derived.Test.YtapjmbjoklppnaaGreatDoorFs33
import Derived.Test.YtapjmbjoklppnaaGreatDoorFs30

/- The reference of layer 34: Top. -/
namespace Go.Proofs.YtapjmbjoklppnaaGreatDoor
open Go.RowKit
namespace Frame
open Att Templ Header
def RdR (l u m v e : ByteArray) (L : List A2) (n : Int) (V : Value) : Prop := ∀ w x, AttsS w x L → Calls Tryz.prog 9 #[.string l, .agg #[.string u, .string m, .string v, .string e], x, .int .i64 n] w fun z w' => z = .returned V ∧ Below w.heap.size w w'
set_option maxRecDepth 100000 in
theorem RdR.calls0 {l u m v e : ByteArray} {L : List A2} {n : Int} {V : Value} (h : RdR l u m v e L n V) {w : World} {x : Value} (hx : AttsS w x L) {R : Ending → World → Prop} (k : ∀ w', Since w w' → R (.returned V) w') : Calls Tryz.prog 9 #[.string l, .agg #[.string u, .string m, .string v, .string e], x, .int .i64 n] w R :=
  (h w x hx).mono fun _ _ ⟨he, hb⟩ => by subst he; exact k _ hb
set_option maxRecDepth 100000 in
theorem rtop_b1 (l u m v e : ByteArray) (L : List A2) (n : Int) (X : Int) (c1 : Mak 26 #[.string l] (.int .i64 X)) (h : (X == 0) = true) : RdR l u m v e L n (.tuple #[.string ⟨#[]⟩, .int .i64 1]) := by
  intro w x hx
  have hp := Lib.hid (hb_new w KT trivial #[.string u, .string m, .string v, .string e] 23)
  have HS := Lib.hid hp.out.since
  have HX : Hid (AttsS (w.alloc (.cells #[.string u, .string m, .string v, .string e] 23)) x L) := Lib.hid (hx.since ((Since.refl w).alloc _))
  obtain ⟨_, m0, m1, m2, m3⟩ := hb4 hp
  clear hx
  go_enter Tryz.func9, Tryz.ntmps9
  go_wp2_with fail
  refine (c1.calls0) ?_
  intro w1 h1
  replace hp := Lib.hid (hp.out.step (by first | exact h1 | exact (Since.alloc (Since.refl _) _).step h1 | exact (Since.alloc (Since.alloc (Since.refl _) _) _).step h1 | exact (Since.drew (Since.refl _)).step h1 | exact (Since.alloc (Since.alloc (Since.alloc (Since.refl _) _) _) _).step h1))
  replace HX := Lib.hid (HX.out.since (by first | exact h1 | exact (Since.alloc (Since.refl _) _).step h1 | exact (Since.alloc (Since.alloc (Since.refl _) _) _).step h1 | exact (Since.drew (Since.refl _)).step h1 | exact (Since.alloc (Since.alloc (Since.alloc (Since.refl _) _) _) _).step h1))
  replace HS := Lib.hid (HS.out.step (by first | exact h1 | exact (Since.alloc (Since.refl _) _).step h1 | exact (Since.alloc (Since.alloc (Since.refl _) _) _).step h1 | exact (Since.drew (Since.refl _)).step h1 | exact (Since.alloc (Since.alloc (Since.alloc (Since.refl _) _) _) _).step h1))
  clear h1
  go_wp2_with fail
  go_ret2
  exact ⟨rfl, HS.out⟩
set_option maxRecDepth 100000 in
theorem rtop_b2 (l u m v e : ByteArray) (L : List A2) (n : Int) (X : Int) (c1 : Mak 26 #[.string l] (.int .i64 X)) (h : (X == 0) = false) (h2 : decide (n < 16) = true) : RdR l u m v e L n (.tuple #[.string ⟨#[]⟩, .int .i64 1]) := by
  intro w x hx
  have hp := Lib.hid (hb_new w KT trivial #[.string u, .string m, .string v, .string e] 23)
  have HS := Lib.hid hp.out.since
  have HX : Hid (AttsS (w.alloc (.cells #[.string u, .string m, .string v, .string e] 23)) x L) := Lib.hid (hx.since ((Since.refl w).alloc _))
  obtain ⟨_, m0, m1, m2, m3⟩ := hb4 hp
  clear hx
  go_enter Tryz.func9, Tryz.ntmps9
  go_wp2_with fail
  refine (c1.calls0) ?_
  intro w1 h1
  replace hp := Lib.hid (hp.out.step (by first | exact h1 | exact (Since.alloc (Since.refl _) _).step h1 | exact (Since.alloc (Since.alloc (Since.refl _) _) _).step h1 | exact (Since.drew (Since.refl _)).step h1 | exact (Since.alloc (Since.alloc (Since.alloc (Since.refl _) _) _) _).step h1))
  replace HX := Lib.hid (HX.out.since (by first | exact h1 | exact (Since.alloc (Since.refl _) _).step h1 | exact (Since.alloc (Since.alloc (Since.refl _) _) _).step h1 | exact (Since.drew (Since.refl _)).step h1 | exact (Since.alloc (Since.alloc (Since.alloc (Since.refl _) _) _) _).step h1))
  replace HS := Lib.hid (HS.out.step (by first | exact h1 | exact (Since.alloc (Since.refl _) _).step h1 | exact (Since.alloc (Since.alloc (Since.refl _) _) _).step h1 | exact (Since.drew (Since.refl _)).step h1 | exact (Since.alloc (Since.alloc (Since.alloc (Since.refl _) _) _) _).step h1))
  clear h1
  go_wp2_with fail
  go_ret2
  exact ⟨rfl, HS.out⟩
set_option maxRecDepth 100000 in
theorem rtop_b3 (l u m v e : ByteArray) (L : List A2) (n : Int) (X : Int) (c1 : Mak 26 #[.string l] (.int .i64 X)) (h : (X == 0) = false) (h2 : decide (n < 16) = false) (h3 : decide (4096 < n) = true) : RdR l u m v e L n (.tuple #[.string ⟨#[]⟩, .int .i64 1]) := by
  intro w x hx
  have hp := Lib.hid (hb_new w KT trivial #[.string u, .string m, .string v, .string e] 23)
  have HS := Lib.hid hp.out.since
  have HX : Hid (AttsS (w.alloc (.cells #[.string u, .string m, .string v, .string e] 23)) x L) := Lib.hid (hx.since ((Since.refl w).alloc _))
  obtain ⟨_, m0, m1, m2, m3⟩ := hb4 hp
  clear hx
  go_enter Tryz.func9, Tryz.ntmps9
  go_wp2_with fail
  refine (c1.calls0) ?_
  intro w1 h1
  replace hp := Lib.hid (hp.out.step (by first | exact h1 | exact (Since.alloc (Since.refl _) _).step h1 | exact (Since.alloc (Since.alloc (Since.refl _) _) _).step h1 | exact (Since.drew (Since.refl _)).step h1 | exact (Since.alloc (Since.alloc (Since.alloc (Since.refl _) _) _) _).step h1))
  replace HX := Lib.hid (HX.out.since (by first | exact h1 | exact (Since.alloc (Since.refl _) _).step h1 | exact (Since.alloc (Since.alloc (Since.refl _) _) _).step h1 | exact (Since.drew (Since.refl _)).step h1 | exact (Since.alloc (Since.alloc (Since.alloc (Since.refl _) _) _) _).step h1))
  replace HS := Lib.hid (HS.out.step (by first | exact h1 | exact (Since.alloc (Since.refl _) _).step h1 | exact (Since.alloc (Since.alloc (Since.refl _) _) _).step h1 | exact (Since.drew (Since.refl _)).step h1 | exact (Since.alloc (Since.alloc (Since.alloc (Since.refl _) _) _) _).step h1))
  clear h1
  go_wp2_with fail
  go_ret2
  exact ⟨rfl, HS.out⟩
set_option maxRecDepth 100000 in
theorem rtop_b4 (l u m v e : ByteArray) (L : List A2) (n : Int) (X : Int) (c1 : Mak 26 #[.string l] (.int .i64 X)) (h : (X == 0) = false) (h2 : decide (n < 16) = false) (h3 : decide (4096 < n) = false) (h4 : (n.tmod 16 != 0) = true) : RdR l u m v e L n (.tuple #[.string ⟨#[]⟩, .int .i64 1]) := by
  intro w x hx
  have hp := Lib.hid (hb_new w KT trivial #[.string u, .string m, .string v, .string e] 23)
  have HS := Lib.hid hp.out.since
  have HX : Hid (AttsS (w.alloc (.cells #[.string u, .string m, .string v, .string e] 23)) x L) := Lib.hid (hx.since ((Since.refl w).alloc _))
  obtain ⟨_, m0, m1, m2, m3⟩ := hb4 hp
  clear hx
  go_enter Tryz.func9, Tryz.ntmps9
  go_wp2_with fail
  refine (c1.calls0) ?_
  intro w1 h1
  replace hp := Lib.hid (hp.out.step (by first | exact h1 | exact (Since.alloc (Since.refl _) _).step h1 | exact (Since.alloc (Since.alloc (Since.refl _) _) _).step h1 | exact (Since.drew (Since.refl _)).step h1 | exact (Since.alloc (Since.alloc (Since.alloc (Since.refl _) _) _) _).step h1))
  replace HX := Lib.hid (HX.out.since (by first | exact h1 | exact (Since.alloc (Since.refl _) _).step h1 | exact (Since.alloc (Since.alloc (Since.refl _) _) _).step h1 | exact (Since.drew (Since.refl _)).step h1 | exact (Since.alloc (Since.alloc (Since.alloc (Since.refl _) _) _) _).step h1))
  replace HS := Lib.hid (HS.out.step (by first | exact h1 | exact (Since.alloc (Since.refl _) _).step h1 | exact (Since.alloc (Since.alloc (Since.refl _) _) _).step h1 | exact (Since.drew (Since.refl _)).step h1 | exact (Since.alloc (Since.alloc (Since.alloc (Since.refl _) _) _) _).step h1))
  clear h1
  go_wp2_with fail
  go_ret2
  exact ⟨rfl, HS.out⟩
set_option maxRecDepth 100000 in
theorem rtop_b5 (l u m v e : ByteArray) (L : List A2) (n : Int) (hn : 16 ≤ n ∧ n ≤ 4096) (X : Int) (c1 : Mak 26 #[.string l] (.int .i64 X)) (h : (X == 0) = false) (hm : n % 16 = 0)
    (c2 : Mak 27 #[.agg #[.string u, .string m, .string v, .string e], .string l] (.int .i64 12)) : RdR l u m v e L n (.tuple #[.string ⟨#[]⟩, .int .i64 12]) := by
  intro w x hx
  have t1 : decide (n < 16) = false := decide_eq_false (by omega)
  have t2 : decide (4096 < n) = false := decide_eq_false (by omega)
  have t3 : (n % 16 != 0) = false := bne_eq_false_iff_eq.2 hm
  have t4 : (n.tmod 16 != 0) = false := by rw [Int.tmod_eq_emod_of_nonneg (by omega)]; exact t3
  have hp := Lib.hid (hb_new w KT trivial #[.string u, .string m, .string v, .string e] 23)
  have HS := Lib.hid hp.out.since
  have HX : Hid (AttsS (w.alloc (.cells #[.string u, .string m, .string v, .string e] 23)) x L) := Lib.hid (hx.since ((Since.refl w).alloc _))
  obtain ⟨_, m0, m1, m2, m3⟩ := hb4 hp
  clear hx
  go_enter Tryz.func9, Tryz.ntmps9
  go_wp2_with fail
  clear m0 m1 m2 m3
  refine (c1.calls0) ?_
  intro w1 h1
  replace hp := Lib.hid (hp.out.step (by first | exact h1 | exact (Since.alloc (Since.refl _) _).step h1 | exact (Since.alloc (Since.alloc (Since.refl _) _) _).step h1 | exact (Since.drew (Since.refl _)).step h1 | exact (Since.alloc (Since.alloc (Since.alloc (Since.refl _) _) _) _).step h1))
  replace HX := Lib.hid (HX.out.since (by first | exact h1 | exact (Since.alloc (Since.refl _) _).step h1 | exact (Since.alloc (Since.alloc (Since.refl _) _) _).step h1 | exact (Since.drew (Since.refl _)).step h1 | exact (Since.alloc (Since.alloc (Since.alloc (Since.refl _) _) _) _).step h1))
  replace HS := Lib.hid (HS.out.step (by first | exact h1 | exact (Since.alloc (Since.refl _) _).step h1 | exact (Since.alloc (Since.alloc (Since.refl _) _) _).step h1 | exact (Since.drew (Since.refl _)).step h1 | exact (Since.alloc (Since.alloc (Since.alloc (Since.refl _) _) _) _).step h1))
  clear h1
  obtain ⟨_, m0, m1, m2, m3⟩ := hb4 hp
  go_wp2_with fail
  clear m0 m1 m2 m3
  refine (c2.calls0) ?_
  intro w2 h2
  replace hp := Lib.hid (hp.out.step (by first | exact h2 | exact (Since.alloc (Since.refl _) _).step h2 | exact (Since.alloc (Since.alloc (Since.refl _) _) _).step h2 | exact (Since.drew (Since.refl _)).step h2 | exact (Since.alloc (Since.alloc (Since.alloc (Since.refl _) _) _) _).step h2))
  replace HX := Lib.hid (HX.out.since (by first | exact h2 | exact (Since.alloc (Since.refl _) _).step h2 | exact (Since.alloc (Since.alloc (Since.refl _) _) _).step h2 | exact (Since.drew (Since.refl _)).step h2 | exact (Since.alloc (Since.alloc (Since.alloc (Since.refl _) _) _) _).step h2))
  replace HS := Lib.hid (HS.out.step (by first | exact h2 | exact (Since.alloc (Since.refl _) _).step h2 | exact (Since.alloc (Since.alloc (Since.refl _) _) _).step h2 | exact (Since.drew (Since.refl _)).step h2 | exact (Since.alloc (Since.alloc (Since.alloc (Since.refl _) _) _) _).step h2))
  clear h2
  go_wp2_with fail
  go_ret2
  exact ⟨rfl, HS.out⟩
set_option maxRecDepth 100000 in
theorem rtop_b6 (l u m v e : ByteArray) (L : List A2) (n : Int) (hn : 16 ≤ n ∧ n ≤ 4096) (X : Int) (c1 : Mak 26 #[.string l] (.int .i64 X)) (h : (X == 0) = false) (hm : n % 16 = 0)
    (c2 : Mak 27 #[.agg #[.string u, .string m, .string v, .string e], .string l] (.int .i64 0)) (O : List Opt.P2) (E : Int) (c3 : MkP 28 L O E) (_hE : (E == 0) = false) (hE2 : (E != 0) = true) : RdR l u m v e L n (.tuple #[.string ⟨#[]⟩, .int .i64 E]) := by
  intro w x hx
  have t1 : decide (n < 16) = false := decide_eq_false (by omega)
  have t2 : decide (4096 < n) = false := decide_eq_false (by omega)
  have t3 : (n % 16 != 0) = false := bne_eq_false_iff_eq.2 hm
  have t4 : (n.tmod 16 != 0) = false := by rw [Int.tmod_eq_emod_of_nonneg (by omega)]; exact t3
  have hp := Lib.hid (hb_new w KT trivial #[.string u, .string m, .string v, .string e] 23)
  have HS := Lib.hid hp.out.since
  have HX : Hid (AttsS (w.alloc (.cells #[.string u, .string m, .string v, .string e] 23)) x L) := Lib.hid (hx.since ((Since.refl w).alloc _))
  obtain ⟨_, m0, m1, m2, m3⟩ := hb4 hp
  clear hx
  go_enter Tryz.func9, Tryz.ntmps9
  go_wp2_with fail
  clear m0 m1 m2 m3
  refine (c1.calls0) ?_
  intro w1 h1
  replace hp := Lib.hid (hp.out.step (by first | exact h1 | exact (Since.alloc (Since.refl _) _).step h1 | exact (Since.alloc (Since.alloc (Since.refl _) _) _).step h1 | exact (Since.drew (Since.refl _)).step h1 | exact (Since.alloc (Since.alloc (Since.alloc (Since.refl _) _) _) _).step h1))
  replace HX := Lib.hid (HX.out.since (by first | exact h1 | exact (Since.alloc (Since.refl _) _).step h1 | exact (Since.alloc (Since.alloc (Since.refl _) _) _).step h1 | exact (Since.drew (Since.refl _)).step h1 | exact (Since.alloc (Since.alloc (Since.alloc (Since.refl _) _) _) _).step h1))
  replace HS := Lib.hid (HS.out.step (by first | exact h1 | exact (Since.alloc (Since.refl _) _).step h1 | exact (Since.alloc (Since.alloc (Since.refl _) _) _).step h1 | exact (Since.drew (Since.refl _)).step h1 | exact (Since.alloc (Since.alloc (Since.alloc (Since.refl _) _) _) _).step h1))
  clear h1
  obtain ⟨_, m0, m1, m2, m3⟩ := hb4 hp
  go_wp2_with fail
  clear m0 m1 m2 m3
  refine (c2.calls0) ?_
  intro w2 h2
  replace hp := Lib.hid (hp.out.step (by first | exact h2 | exact (Since.alloc (Since.refl _) _).step h2 | exact (Since.alloc (Since.alloc (Since.refl _) _) _).step h2 | exact (Since.drew (Since.refl _)).step h2 | exact (Since.alloc (Since.alloc (Since.alloc (Since.refl _) _) _) _).step h2))
  replace HX := Lib.hid (HX.out.since (by first | exact h2 | exact (Since.alloc (Since.refl _) _).step h2 | exact (Since.alloc (Since.alloc (Since.refl _) _) _).step h2 | exact (Since.drew (Since.refl _)).step h2 | exact (Since.alloc (Since.alloc (Since.alloc (Since.refl _) _) _) _).step h2))
  replace HS := Lib.hid (HS.out.step (by first | exact h2 | exact (Since.alloc (Since.refl _) _).step h2 | exact (Since.alloc (Since.alloc (Since.refl _) _) _).step h2 | exact (Since.drew (Since.refl _)).step h2 | exact (Since.alloc (Since.alloc (Since.alloc (Since.refl _) _) _) _).step h2))
  clear h2
  go_wp2_with fail
  refine (c3.calls0 HX.out) ?_
  intro v3 w3 hv3 h3
  have HV3 := Lib.hid hv3
  clear hv3
  replace hp := Lib.hid (hp.out.step (by first | exact h3 | exact (Since.alloc (Since.refl _) _).step h3 | exact (Since.alloc (Since.alloc (Since.refl _) _) _).step h3 | exact (Since.drew (Since.refl _)).step h3 | exact (Since.alloc (Since.alloc (Since.alloc (Since.refl _) _) _) _).step h3))
  replace HS := Lib.hid (HS.out.step (by first | exact h3 | exact (Since.alloc (Since.refl _) _).step h3 | exact (Since.alloc (Since.alloc (Since.refl _) _) _).step h3 | exact (Since.drew (Since.refl _)).step h3 | exact (Since.alloc (Since.alloc (Since.alloc (Since.refl _) _) _) _).step h3))
  clear h3
  go_wp2_with fail
  go_ret2
  exact ⟨rfl, HS.out⟩
set_option maxRecDepth 100000 in
theorem rtop_b8 (l u m v e : ByteArray) (L : List A2) (n : Int) (hn : 16 ≤ n ∧ n ≤ 4096) (X : Int) (c1 : Mak 26 #[.string l] (.int .i64 X)) (h : (X == 0) = false) (hm : n % 16 = 0)
    (c2 : Mak 27 #[.agg #[.string u, .string m, .string v, .string e], .string l] (.int .i64 0)) (O : List Opt.P2) (c3 : MkP 28 L O 0) (P : ByteArray) (hP : P.size ≤ 20000) (N : Int) (c4 : Opt.RdO 29 O (fun x => #[x]) (.tuple #[.string P, .int .i64 N, .int .i64 0]))
    (Z : Int) (hZ : 16 + (P.size : Int) + 2 * n + 32 = Z) (h9 : 9999 < Z) : RdR l u m v e L n (.tuple #[.string ⟨#[]⟩, .int .i64 4]) := by
  intro w x hx
  have t9 : decide (9999 < 16 + (P.size : Int) + 2 * n + 32) = true := decide_eq_true (by omega)
  clear hZ h9
  have t1 : decide (n < 16) = false := decide_eq_false (by omega)
  have t2 : decide (4096 < n) = false := decide_eq_false (by omega)
  have t3 : (n % 16 != 0) = false := bne_eq_false_iff_eq.2 hm
  have t4 : (n.tmod 16 != 0) = false := by rw [Int.tmod_eq_emod_of_nonneg (by omega)]; exact t3
  have hp := Lib.hid (hb_new w KT trivial #[.string u, .string m, .string v, .string e] 23)
  have HS := Lib.hid hp.out.since
  have HX : Hid (AttsS (w.alloc (.cells #[.string u, .string m, .string v, .string e] 23)) x L) := Lib.hid (hx.since ((Since.refl w).alloc _))
  obtain ⟨_, m0, m1, m2, m3⟩ := hb4 hp
  clear hx
  go_enter Tryz.func9, Tryz.ntmps9
  go_wp2_with fail
  clear m0 m1 m2 m3
  refine (c1.calls0) ?_
  intro w1 h1
  replace hp := Lib.hid (hp.out.step (by first | exact h1 | exact (Since.alloc (Since.refl _) _).step h1 | exact (Since.alloc (Since.alloc (Since.refl _) _) _).step h1 | exact (Since.drew (Since.refl _)).step h1 | exact (Since.alloc (Since.alloc (Since.alloc (Since.refl _) _) _) _).step h1))
  replace HX := Lib.hid (HX.out.since (by first | exact h1 | exact (Since.alloc (Since.refl _) _).step h1 | exact (Since.alloc (Since.alloc (Since.refl _) _) _).step h1 | exact (Since.drew (Since.refl _)).step h1 | exact (Since.alloc (Since.alloc (Since.alloc (Since.refl _) _) _) _).step h1))
  replace HS := Lib.hid (HS.out.step (by first | exact h1 | exact (Since.alloc (Since.refl _) _).step h1 | exact (Since.alloc (Since.alloc (Since.refl _) _) _).step h1 | exact (Since.drew (Since.refl _)).step h1 | exact (Since.alloc (Since.alloc (Since.alloc (Since.refl _) _) _) _).step h1))
  clear h1
  obtain ⟨_, m0, m1, m2, m3⟩ := hb4 hp
  go_wp2_with fail
  clear m0 m1 m2 m3
  refine (c2.calls0) ?_
  intro w2 h2
  replace hp := Lib.hid (hp.out.step (by first | exact h2 | exact (Since.alloc (Since.refl _) _).step h2 | exact (Since.alloc (Since.alloc (Since.refl _) _) _).step h2 | exact (Since.drew (Since.refl _)).step h2 | exact (Since.alloc (Since.alloc (Since.alloc (Since.refl _) _) _) _).step h2))
  replace HX := Lib.hid (HX.out.since (by first | exact h2 | exact (Since.alloc (Since.refl _) _).step h2 | exact (Since.alloc (Since.alloc (Since.refl _) _) _).step h2 | exact (Since.drew (Since.refl _)).step h2 | exact (Since.alloc (Since.alloc (Since.alloc (Since.refl _) _) _) _).step h2))
  replace HS := Lib.hid (HS.out.step (by first | exact h2 | exact (Since.alloc (Since.refl _) _).step h2 | exact (Since.alloc (Since.alloc (Since.refl _) _) _).step h2 | exact (Since.drew (Since.refl _)).step h2 | exact (Since.alloc (Since.alloc (Since.alloc (Since.refl _) _) _) _).step h2))
  clear h2
  go_wp2_with fail
  refine (c3.calls0 HX.out) ?_
  intro v3 w3 hv3 h3
  have HV3 := Lib.hid hv3
  clear hv3
  replace hp := Lib.hid (hp.out.step (by first | exact h3 | exact (Since.alloc (Since.refl _) _).step h3 | exact (Since.alloc (Since.alloc (Since.refl _) _) _).step h3 | exact (Since.drew (Since.refl _)).step h3 | exact (Since.alloc (Since.alloc (Since.alloc (Since.refl _) _) _) _).step h3))
  replace HS := Lib.hid (HS.out.step (by first | exact h3 | exact (Since.alloc (Since.refl _) _).step h3 | exact (Since.alloc (Since.alloc (Since.refl _) _) _).step h3 | exact (Since.drew (Since.refl _)).step h3 | exact (Since.alloc (Since.alloc (Since.alloc (Since.refl _) _) _) _).step h3))
  clear h3
  go_wp2_with fail
  refine (c4.calls0 HV3.out) ?_
  intro w4 h4
  replace hp := Lib.hid (hp.out.step (by first | exact h4 | exact (Since.alloc (Since.refl _) _).step h4 | exact (Since.alloc (Since.alloc (Since.refl _) _) _).step h4 | exact (Since.drew (Since.refl _)).step h4 | exact (Since.alloc (Since.alloc (Since.alloc (Since.refl _) _) _) _).step h4))
  replace HS := Lib.hid (HS.out.step (by first | exact h4 | exact (Since.alloc (Since.refl _) _).step h4 | exact (Since.alloc (Since.alloc (Since.refl _) _) _).step h4 | exact (Since.drew (Since.refl _)).step h4 | exact (Since.alloc (Since.alloc (Since.alloc (Since.refl _) _) _) _).step h4))
  clear h4
  go_wp2_with fail
  go_ret2
  exact ⟨rfl, HS.out⟩
set_option maxRecDepth 100000 in
set_option maxHeartbeats 4000000 in
theorem rtop_ok (l u m v e : ByteArray) (L : List A2) (n : Int) (hn : 16 ≤ n ∧ n ≤ 4096) (X : Int) (c1 : Mak 26 #[.string l] (.int .i64 X)) (h : (X == 0) = false) (hm : n % 16 = 0)
    (c2 : Mak 27 #[.agg #[.string u, .string m, .string v, .string e], .string l] (.int .i64 0)) (O : List Opt.P2) (c3 : MkP 28 L O 0) (P : ByteArray) (hP : P.size ≤ 20000) (N : Int) (c4 : Opt.RdO 29 O (fun x => #[x]) (.tuple #[.string P, .int .i64 N, .int .i64 0]))
    (Z : Int) (hZ : 16 + (P.size : Int) + 2 * n + 32 = Z) (h9 : Z ≤ 9999) (H Y : ByteArray) (c5 : Mak 30 #[.agg #[.int .i64 Z, .string l, .int .i64 N, .string u, .string m, .string v, .string e]] (.tuple #[.string H, .int .i64 0])) (hY : H ++ P = Y) (hYs : Y.size ≤ 40000) : RdR l u m v e L n (.tuple #[.string Y, .int .i64 0]) := by
  intro w x hx
  have t9 : decide (9999 < 16 + (P.size : Int) + 2 * n + 32) = false := decide_eq_false (by omega)
  have hHP : H.size + P.size ≤ 140737488355328 := by rw [← hY, ByteArray.size_append] at hYs; omega
  rw [← hZ] at c5
  clear hZ h9
  have t1 : decide (n < 16) = false := decide_eq_false (by omega)
  have t2 : decide (4096 < n) = false := decide_eq_false (by omega)
  have t3 : (n % 16 != 0) = false := bne_eq_false_iff_eq.2 hm
  have t4 : (n.tmod 16 != 0) = false := by rw [Int.tmod_eq_emod_of_nonneg (by omega)]; exact t3
  have hp := Lib.hid (hb_new w KT trivial #[.string u, .string m, .string v, .string e] 23)
  have HS := Lib.hid hp.out.since
  have HX : Hid (AttsS (w.alloc (.cells #[.string u, .string m, .string v, .string e] 23)) x L) := Lib.hid (hx.since ((Since.refl w).alloc _))
  obtain ⟨_, m0, m1, m2, m3⟩ := hb4 hp
  clear hx
  go_enter Tryz.func9, Tryz.ntmps9
  go_wp2_with fail
  clear m0 m1 m2 m3
  refine (c1.calls0) ?_
  intro w1 h1
  replace hp := Lib.hid (hp.out.step (by first | exact h1 | exact (Since.alloc (Since.refl _) _).step h1 | exact (Since.alloc (Since.alloc (Since.refl _) _) _).step h1 | exact (Since.drew (Since.refl _)).step h1 | exact (Since.alloc (Since.alloc (Since.alloc (Since.refl _) _) _) _).step h1))
  replace HX := Lib.hid (HX.out.since (by first | exact h1 | exact (Since.alloc (Since.refl _) _).step h1 | exact (Since.alloc (Since.alloc (Since.refl _) _) _).step h1 | exact (Since.drew (Since.refl _)).step h1 | exact (Since.alloc (Since.alloc (Since.alloc (Since.refl _) _) _) _).step h1))
  replace HS := Lib.hid (HS.out.step (by first | exact h1 | exact (Since.alloc (Since.refl _) _).step h1 | exact (Since.alloc (Since.alloc (Since.refl _) _) _).step h1 | exact (Since.drew (Since.refl _)).step h1 | exact (Since.alloc (Since.alloc (Since.alloc (Since.refl _) _) _) _).step h1))
  clear h1
  obtain ⟨_, m0, m1, m2, m3⟩ := hb4 hp
  go_wp2_with fail
  clear m0 m1 m2 m3
  refine (c2.calls0) ?_
  intro w2 h2
  replace hp := Lib.hid (hp.out.step (by first | exact h2 | exact (Since.alloc (Since.refl _) _).step h2 | exact (Since.alloc (Since.alloc (Since.refl _) _) _).step h2 | exact (Since.drew (Since.refl _)).step h2 | exact (Since.alloc (Since.alloc (Since.alloc (Since.refl _) _) _) _).step h2))
  replace HX := Lib.hid (HX.out.since (by first | exact h2 | exact (Since.alloc (Since.refl _) _).step h2 | exact (Since.alloc (Since.alloc (Since.refl _) _) _).step h2 | exact (Since.drew (Since.refl _)).step h2 | exact (Since.alloc (Since.alloc (Since.alloc (Since.refl _) _) _) _).step h2))
  replace HS := Lib.hid (HS.out.step (by first | exact h2 | exact (Since.alloc (Since.refl _) _).step h2 | exact (Since.alloc (Since.alloc (Since.refl _) _) _).step h2 | exact (Since.drew (Since.refl _)).step h2 | exact (Since.alloc (Since.alloc (Since.alloc (Since.refl _) _) _) _).step h2))
  clear h2
  go_wp2_with fail
  refine (c3.calls0 HX.out) ?_
  intro v3 w3 hv3 h3
  have HV3 := Lib.hid hv3
  clear hv3
  replace hp := Lib.hid (hp.out.step (by first | exact h3 | exact (Since.alloc (Since.refl _) _).step h3 | exact (Since.alloc (Since.alloc (Since.refl _) _) _).step h3 | exact (Since.drew (Since.refl _)).step h3 | exact (Since.alloc (Since.alloc (Since.alloc (Since.refl _) _) _) _).step h3))
  replace HS := Lib.hid (HS.out.step (by first | exact h3 | exact (Since.alloc (Since.refl _) _).step h3 | exact (Since.alloc (Since.alloc (Since.refl _) _) _).step h3 | exact (Since.drew (Since.refl _)).step h3 | exact (Since.alloc (Since.alloc (Since.alloc (Since.refl _) _) _) _).step h3))
  clear h3
  go_wp2_with fail
  refine (c4.calls0 HV3.out) ?_
  intro w4 h4
  replace hp := Lib.hid (hp.out.step (by first | exact h4 | exact (Since.alloc (Since.refl _) _).step h4 | exact (Since.alloc (Since.alloc (Since.refl _) _) _).step h4 | exact (Since.drew (Since.refl _)).step h4 | exact (Since.alloc (Since.alloc (Since.alloc (Since.refl _) _) _) _).step h4))
  replace HS := Lib.hid (HS.out.step (by first | exact h4 | exact (Since.alloc (Since.refl _) _).step h4 | exact (Since.alloc (Since.alloc (Since.refl _) _) _).step h4 | exact (Since.drew (Since.refl _)).step h4 | exact (Since.alloc (Since.alloc (Since.alloc (Since.refl _) _) _) _).step h4))
  clear h4
  obtain ⟨_, m0, m1, m2, m3⟩ := hb4 hp
  go_wp2_with fail
  clear m0 m1 m2 m3
  refine (c5.calls0) ?_
  intro w5 h5
  replace hp := Lib.hid (hp.out.step (by first | exact h5 | exact (Since.alloc (Since.refl _) _).step h5 | exact (Since.alloc (Since.alloc (Since.refl _) _) _).step h5 | exact (Since.drew (Since.refl _)).step h5 | exact (Since.alloc (Since.alloc (Since.alloc (Since.refl _) _) _) _).step h5))
  replace HS := Lib.hid (HS.out.step (by first | exact h5 | exact (Since.alloc (Since.refl _) _).step h5 | exact (Since.alloc (Since.alloc (Since.refl _) _) _).step h5 | exact (Since.drew (Since.refl _)).step h5 | exact (Since.alloc (Since.alloc (Since.alloc (Since.refl _) _) _) _).step h5))
  clear h5
  go_wp2_with fail
  go_ret2
  subst hY
  exact ⟨rfl, HS.out⟩
theorem rtop_e {l u m v e : ByteArray} {L : List A2} {n : Int} (E : Int) (hE : topE l u m v e L n = E) (h : E ≠ 0) (k : RdR l u m v e L n (.tuple #[.string ⟨#[]⟩, .int .i64 E])) : RdR l u m v e L n (.tuple #[.string (topX l u m v e L n), .int .i64 (topE l u m v e L n)]) := by
  have hX : topX l u m v e L n = ⟨#[]⟩ := by unfold topX; rw [hE, if_neg h]
  rw [hX, hE]; exact k
theorem rtop_any (l u m v e : ByteArray) (L : List A2) (n : Int) (hz : u.size ≤ 100 ∧ m.size ≤ 100 ∧ v.size ≤ 100 ∧ e.size ≤ 100) : RdR l u m v e L n (.tuple #[.string (topX l u m v e L n), .int .i64 (topE l u m v e L n)]) := by
  have c1 := (Kind.rmost_ret l _ rfl).mak
  by_cases h0 : Kind.mostN l.data.toList = 0
  · refine rtop_e 1 ?_ (by decide) (rtop_b1 l u m v e L n _ c1 (beq_iff_eq.2 h0))
    unfold topE badN; rw [decide_eq_true h0]; rfl
  have t0 : (Kind.mostN l.data.toList == 0) = false := beq_eq_false_iff_ne.2 h0
  by_cases h16 : n < 16
  · refine rtop_e 1 ?_ (by decide) (rtop_b2 l u m v e L n _ c1 t0 (decide_eq_true h16))
    unfold topE badN; rw [decide_eq_true h16, Bool.or_true]; rfl
  have t16 : decide (n < 16) = false := decide_eq_false h16
  by_cases h40 : 4096 < n
  · refine rtop_e 1 ?_ (by decide) (rtop_b3 l u m v e L n _ c1 t0 t16 (decide_eq_true h40))
    unfold topE badN; rw [decide_eq_true h40, Bool.or_true]; rfl
  have t40 : decide (4096 < n) = false := decide_eq_false h40
  have em : n.tmod 16 = n % 16 := Int.tmod_eq_emod_of_nonneg (by omega)
  by_cases hm : n % 16 = 0
  case neg =>
    refine rtop_e 1 ?_ (by decide) (rtop_b4 l u m v e L n _ c1 t0 t16 t40 (by rw [em]; exact bne_iff_ne.2 hm))
    unfold topE badN; rw [decide_eq_true hm, Bool.or_true]; rfl
  have hbad : badN l n = false := by
    unfold badN
    rw [decide_eq_false h0, t16, t40, decide_eq_false (fun h => h hm)]; rfl
  by_cases hk : Table.okB u.data.toList m.data.toList v.data.toList e.data.toList l.data.toList = true
  case neg =>
    have hkf : Table.okB u.data.toList m.data.toList v.data.toList e.data.toList l.data.toList = false := by
      cases h : Table.okB u.data.toList m.data.toList v.data.toList e.data.toList l.data.toList with
      | true => exact absurd h hk
      | false => rfl
    refine rtop_e 12 ?_ (by decide) (rtop_b5 l u m v e L n ⟨by omega, by omega⟩ _ c1 t0 hm (Table.rcheck_mak u m v e l 12 (by rw [hkf]; rfl)))
    unfold topE; rw [hbad, if_neg (by decide), if_pos hkf]
  have c2 := Table.rcheck_mak u m v e l 0 (by rw [hk]; rfl)
  have hkn : ¬ Table.okB u.data.toList m.data.toList v.data.toList e.data.toList l.data.toList = false := by rw [hk]; decide
  have c3 := roptions_mk L
  by_cases ho : oE L = 0
  case neg =>
    refine rtop_e (oE L) ?_ ho (rtop_b6 l u m v e L n ⟨by omega, by omega⟩ _ c1 t0 hm c2 _ _ c3 (beq_eq_false_iff_ne.2 ho) (bne_iff_ne.2 ho))
    unfold topE; rw [hbad, if_neg (by decide), if_neg hkn, if_pos ho]
  rw [ho] at c3
  have c4 := Opt.rpack_any (oL L) (by have := (ol_small L).1; omega) (ol_small L).2
  unfold Opt.packV at c4
  rw [packE_ok L] at c4
  have hps := pk_size L
  by_cases h9 : 9999 < topN L n
  · refine rtop_e 4 ?_ (by decide) (rtop_b8 l u m v e L n ⟨by omega, by omega⟩ _ c1 t0 hm c2 _ c3 (pk L) (by omega) _ c4 (topN L n) rfl h9)
    unfold topE; rw [hbad, if_neg (by decide), if_neg hkn, if_neg (fun h => h ho), if_neg (fun h => h (packE_ok L)), if_pos h9]
  have hE : topE l u m v e L n = 0 := by
    unfold topE; rw [hbad, if_neg (by decide), if_neg hkn, if_neg (fun h => h ho), if_neg (fun h => h (packE_ok L)), if_neg h9]
  have hX : topX l u m v e L n = encX (topN L n) (Opt.packN (oL L)) l u m v e ++ pk L := by unfold topX; rw [if_pos hE]
  have ht := top_ok_iff l u m v e L n hE
  have hin := ht.inN
  have c5 := renc_any (topN L n) (Opt.packN (oL L)) l u m v e hz _ 0 rfl (by unfold encE; rw [if_pos hin, if_pos hk])
  obtain ⟨z1, _, _⟩ := Header.dec_enc (topN L n) (Opt.packN (oL L)) l u m v e ⟨#[]⟩ hin hk
  rw [hE, hX]
  exact rtop_ok l u m v e L n ⟨by omega, by omega⟩ _ c1 t0 hm c2 _ c3 (pk L) (by omega) _ c4 (topN L n) rfl (by omega) _ _ c5 rfl (by rw [ByteArray.size_append, z1]; omega)
end Frame
end Go.Proofs.YtapjmbjoklppnaaGreatDoor

/- The reference of layer 34: Cut. -/
namespace Go.Proofs.YtapjmbjoklppnaaGreatDoor
open Go.RowKit
namespace Frame
open Att Templ Header
set_option maxRecDepth 100000 in
theorem rz9_info : (Tryz.prog.info? 35).map (·.size) = some Z9.size := by kernel_rfl
set_option maxRecDepth 100000 in
theorem rc9_info (l u m v e : ByteArray) (x : Value) (t c g : ByteArray) : (Tryz.prog.info? 35).map (·.size) = some (C9 l u m v e x t c g).size := by kernel_rfl
set_option maxRecDepth 100000 in
theorem rcut_early (s : ByteArray) (E : Int) (h : (s.size = 0 ∧ E = 3) ∨ (9999 < s.size ∧ E = 4)) : Mak 11 #[.string s] (.tuple #[.agg Z9, .int .i64 E]) := by
  intro w
  have hr : Hid (HR w w.heap.size Z9 35 (w.alloc (.cells Z9 35))) := Lib.hid ⟨heap_alloc_new w _⟩
  have HS : Hid (Since w (w.alloc (.cells Z9 35))) := Lib.hid ((Since.refl w).alloc _)
  unfold Z9 at hr HS
  rcases h with ⟨h, rfl⟩ | ⟨h, rfl⟩
  · obtain rfl : s = ⟨#[]⟩ := by apply ba_ext; exact List.length_eq_zero_iff.1 h
    clear h
    go_enter Tryz.func11, Tryz.ntmps11
    go_wp2_with (refine wpList_store_row rfl 35 _ _ rfl w.heap.size (Z9) (by rfl) (by rfl) _ _ hr.out.row (rz9_info) rfl (z9_one) ?_)
    exact bodyPost_ret (v := .tuple #[.agg Z9, .int .i64 3]) (results_cell_tmp2 Tryz.results11 _ _ _ _ _ _ _ _ rfl rfl (setRow_heap _ _ _ _ _ _ hr.out.row) Tryz.underlying35 rfl rz9_info) rfl ⟨rfl, below_setRow HS.out (Nat.le_refl _) _⟩
  · have b1 := some_bytes s (by omega)
    have b2 := some_bytes_f s (by omega)
    have t1 : decide ((9999 : Int) < (s.size : Int)) = true := decide_eq_true (by omega)
    clear h
    go_enter Tryz.func11, Tryz.ntmps11
    go_wp2_with (refine wpList_store_row rfl 35 _ _ rfl w.heap.size (Z9) (by rfl) (by rfl) _ _ hr.out.row (rz9_info) rfl (z9_one) ?_)
    exact bodyPost_ret (v := .tuple #[.agg Z9, .int .i64 4]) (results_cell_tmp2 Tryz.results11 _ _ _ _ _ _ _ _ rfl rfl (setRow_heap _ _ _ _ _ _ hr.out.row) Tryz.underlying35 rfl rz9_info) rfl ⟨rfl, below_setRow HS.out (Nat.le_refl _) _⟩
set_option maxRecDepth 100000 in
set_option maxHeartbeats 4000000 in
theorem rcut_dec (s : ByteArray) (h0 : 0 < s.size) (h9 : s.size ≤ 9999) (n k : Int) (l u m v e : ByteArray) (E : Int) (_e1 : (E == 0) = false) (e2 : (E != 0) = true) (c1 : Mak 32 #[.string s] (.tuple #[.agg #[.int .i64 n, .string l, .int .i64 k, .string u, .string m, .string v, .string e], .int .i64 E])) : Mak 11 #[.string s] (.tuple #[.agg Z9, .int .i64 E]) := by
  intro w
  have hr : Hid (HR w w.heap.size Z9 35 (w.alloc (.cells Z9 35))) := Lib.hid ⟨heap_alloc_new w _⟩
  have HS : Hid (Since w (w.alloc (.cells Z9 35))) := Lib.hid ((Since.refl w).alloc _)
  unfold Z9 at hr HS
  have b1 := some_bytes s (by omega)
  have b2 := some_bytes_f s (by omega)
  have t1 : decide ((9999 : Int) < (s.size : Int)) = false := decide_eq_false (by omega)
  go_enter Tryz.func11, Tryz.ntmps11
  go_wp2_with fail
  refine (c1.calls0) ?_
  intro w1 h1
  replace hr := Lib.hid (hr.out.step (by first | exact h1 | exact (Since.alloc (Since.refl _) _).step h1 | exact (Since.alloc (Since.alloc (Since.refl _) _) _).step h1 | exact (Since.drew (Since.refl _)).step h1 | exact (Since.alloc (Since.alloc (Since.alloc (Since.refl _) _) _) _).step h1))
  replace HS := Lib.hid (HS.out.step (by first | exact h1 | exact (Since.alloc (Since.refl _) _).step h1 | exact (Since.alloc (Since.alloc (Since.refl _) _) _).step h1 | exact (Since.drew (Since.refl _)).step h1 | exact (Since.alloc (Since.alloc (Since.alloc (Since.refl _) _) _) _).step h1))
  clear h1
  have hb := Lib.hid (hb_new w1 KT trivial #[.int .i64 n, .string l, .int .i64 k, .string u, .string m, .string v, .string e] 68)
  replace hr := Lib.hid (hr.out.step ((Below.refl _ w1).alloc (Nat.le_refl _) (.cells #[.int .i64 n, .string l, .int .i64 k, .string u, .string m, .string v, .string e] 68)))
  replace HS := Lib.hid (HS.out.step hb.out.since)
  obtain ⟨_, m0, m1, m2, m3, m4, m5, m6⟩ := hb7 hb
  go_wp2_with (refine wpList_store_row rfl 35 _ _ rfl w.heap.size (Z9) (by rfl) (by rfl) _ _ hr.out.row (rz9_info) rfl (z9_one) ?_)
  exact bodyPost_ret (v := .tuple #[.agg Z9, .int .i64 E]) (results_cell_tmp2 Tryz.results11 _ _ _ _ _ _ _ _ rfl rfl (setRow_heap _ _ _ _ _ _ hr.out.row) Tryz.underlying35 rfl rz9_info) rfl ⟨rfl, below_setRow HS.out (Nat.le_refl _) _⟩
set_option maxRecDepth 100000 in
set_option maxHeartbeats 4000000 in
theorem rcut_len (s : ByteArray) (h0 : 0 < s.size) (h9 : s.size ≤ 9999) (n k : Int) (l u m v e : ByteArray) (hl : (n != (s.size : Int)) = true) (c1 : Mak 32 #[.string s] (.tuple #[.agg #[.int .i64 n, .string l, .int .i64 k, .string u, .string m, .string v, .string e], .int .i64 0])) : Mak 11 #[.string s] (.tuple #[.agg Z9, .int .i64 5]) := by
  intro w
  have hr : Hid (HR w w.heap.size Z9 35 (w.alloc (.cells Z9 35))) := Lib.hid ⟨heap_alloc_new w _⟩
  have HS : Hid (Since w (w.alloc (.cells Z9 35))) := Lib.hid ((Since.refl w).alloc _)
  unfold Z9 at hr HS
  have b1 := some_bytes s (by omega)
  have b2 := some_bytes_f s (by omega)
  have t1 : decide ((9999 : Int) < (s.size : Int)) = false := decide_eq_false (by omega)
  go_enter Tryz.func11, Tryz.ntmps11
  go_wp2_with fail
  refine (c1.calls0) ?_
  intro w1 h1
  replace hr := Lib.hid (hr.out.step (by first | exact h1 | exact (Since.alloc (Since.refl _) _).step h1 | exact (Since.alloc (Since.alloc (Since.refl _) _) _).step h1 | exact (Since.drew (Since.refl _)).step h1 | exact (Since.alloc (Since.alloc (Since.alloc (Since.refl _) _) _) _).step h1))
  replace HS := Lib.hid (HS.out.step (by first | exact h1 | exact (Since.alloc (Since.refl _) _).step h1 | exact (Since.alloc (Since.alloc (Since.refl _) _) _).step h1 | exact (Since.drew (Since.refl _)).step h1 | exact (Since.alloc (Since.alloc (Since.alloc (Since.refl _) _) _) _).step h1))
  clear h1
  have hb := Lib.hid (hb_new w1 KT trivial #[.int .i64 n, .string l, .int .i64 k, .string u, .string m, .string v, .string e] 68)
  replace hr := Lib.hid (hr.out.step ((Below.refl _ w1).alloc (Nat.le_refl _) (.cells #[.int .i64 n, .string l, .int .i64 k, .string u, .string m, .string v, .string e] 68)))
  replace HS := Lib.hid (HS.out.step hb.out.since)
  obtain ⟨_, m0, m1, m2, m3, m4, m5, m6⟩ := hb7 hb
  go_wp2_with (refine wpList_store_row rfl 35 _ _ rfl w.heap.size (Z9) (by rfl) (by rfl) _ _ hr.out.row (rz9_info) rfl (z9_one) ?_)
  exact bodyPost_ret (v := .tuple #[.agg Z9, .int .i64 5]) (results_cell_tmp2 Tryz.results11 _ _ _ _ _ _ _ _ rfl rfl (setRow_heap _ _ _ _ _ _ hr.out.row) Tryz.underlying35 rfl rz9_info) rfl ⟨rfl, below_setRow HS.out (Nat.le_refl _) _⟩
set_option maxRecDepth 100000 in
set_option maxHeartbeats 4000000 in
theorem rcut_unp (s : ByteArray) (h0 : 0 < s.size) (h9 : s.size ≤ 9999) (n k : Int) (l u m v e : ByteArray) (hl : (n != (s.size : Int)) = false) (i1 : (16 : Int) ≤ (s.size : Int)) (T : ByteArray) (hT : s.extract 16 s.size = T) (c1 : Mak 32 #[.string s] (.tuple #[.agg #[.int .i64 n, .string l, .int .i64 k, .string u, .string m, .string v, .string e], .int .i64 0])) (O : List Opt.P2) (N E : Int) (_e1 : (E == 0) = false) (e2 : (E != 0) = true) (c2 : Opt.MkO 33 #[.string T, .int .i64 k] O N E) : Mak 11 #[.string s] (.tuple #[.agg Z9, .int .i64 E]) := by
  intro w
  subst hT
  have hr : Hid (HR w w.heap.size Z9 35 (w.alloc (.cells Z9 35))) := Lib.hid ⟨heap_alloc_new w _⟩
  have HS : Hid (Since w (w.alloc (.cells Z9 35))) := Lib.hid ((Since.refl w).alloc _)
  unfold Z9 at hr HS
  have b1 := some_bytes s (by omega)
  have b2 := some_bytes_f s (by omega)
  have t1 : decide ((9999 : Int) < (s.size : Int)) = false := decide_eq_false (by omega)
  go_enter Tryz.func11, Tryz.ntmps11
  go_wp2_with fail
  refine (c1.calls0) ?_
  intro w1 h1
  replace hr := Lib.hid (hr.out.step (by first | exact h1 | exact (Since.alloc (Since.refl _) _).step h1 | exact (Since.alloc (Since.alloc (Since.refl _) _) _).step h1 | exact (Since.drew (Since.refl _)).step h1 | exact (Since.alloc (Since.alloc (Since.alloc (Since.refl _) _) _) _).step h1))
  replace HS := Lib.hid (HS.out.step (by first | exact h1 | exact (Since.alloc (Since.refl _) _).step h1 | exact (Since.alloc (Since.alloc (Since.refl _) _) _).step h1 | exact (Since.drew (Since.refl _)).step h1 | exact (Since.alloc (Since.alloc (Since.alloc (Since.refl _) _) _) _).step h1))
  clear h1
  have hb := Lib.hid (hb_new w1 KT trivial #[.int .i64 n, .string l, .int .i64 k, .string u, .string m, .string v, .string e] 68)
  replace hr := Lib.hid (hr.out.step ((Below.refl _ w1).alloc (Nat.le_refl _) (.cells #[.int .i64 n, .string l, .int .i64 k, .string u, .string m, .string v, .string e] 68)))
  replace HS := Lib.hid (HS.out.step hb.out.since)
  obtain ⟨_, m0, m1, m2, m3, m4, m5, m6⟩ := hb7 hb
  go_wp2_with fail
  go_region_law (go_simp; go_at_call 33; refine c2.calls0 ?_; intro o w2 ho h2; replace hr := Lib.hid (hr.out.step (by first | exact h2 | exact Since.step (Since.drew (Since.refl _)) h2)); replace hb := Lib.hid (hb.out.step (by first | exact h2 | exact Since.step (Since.drew (Since.refl _)) h2)); replace HS := Lib.hid (HS.out.step (by first | exact h2 | exact Since.step (Since.drew (Since.refl _)) h2)); have HO := Lib.hid ho; clear ho h2)
  all_goals
    clear m0 m1 m2 m3 m4 m5 m6
    go_wp2_with (refine wpList_store_row rfl 35 _ _ rfl w.heap.size (Z9) (by rfl) (by rfl) _ _ hr.out.row (rz9_info) rfl (z9_one) ?_)
    exact bodyPost_ret (v := .tuple #[.agg Z9, .int .i64 E]) (results_cell_tmp2 Tryz.results11 _ _ _ _ _ _ _ _ rfl rfl (setRow_heap _ _ _ _ _ _ hr.out.row) Tryz.underlying35 rfl rz9_info) rfl ⟨rfl, below_setRow HS.out (Nat.le_refl _) _⟩
set_option maxRecDepth 100000 in
set_option maxHeartbeats 4000000 in
theorem rcut_from (s : ByteArray) (h0 : 0 < s.size) (h9 : s.size ≤ 9999) (n k : Int) (l u m v e : ByteArray) (hl : (n != (s.size : Int)) = false) (i1 : (16 : Int) ≤ (s.size : Int)) (T : ByteArray) (hT : s.extract 16 s.size = T) (c1 : Mak 32 #[.string s] (.tuple #[.agg #[.int .i64 n, .string l, .int .i64 k, .string u, .string m, .string v, .string e], .int .i64 0])) (O : List Opt.P2) (N E : Int) (_e1 : (E == 0) = false) (e2 : (E != 0) = true) (c2 : Opt.MkO 33 #[.string T, .int .i64 k] O N 0) (L : List A2) (c3 : MkF 34 O L E) : Mak 11 #[.string s] (.tuple #[.agg Z9, .int .i64 E]) := by
  intro w
  subst hT
  have hr : Hid (HR w w.heap.size Z9 35 (w.alloc (.cells Z9 35))) := Lib.hid ⟨heap_alloc_new w _⟩
  have HS : Hid (Since w (w.alloc (.cells Z9 35))) := Lib.hid ((Since.refl w).alloc _)
  unfold Z9 at hr HS
  have b1 := some_bytes s (by omega)
  have b2 := some_bytes_f s (by omega)
  have t1 : decide ((9999 : Int) < (s.size : Int)) = false := decide_eq_false (by omega)
  go_enter Tryz.func11, Tryz.ntmps11
  go_wp2_with fail
  refine (c1.calls0) ?_
  intro w1 h1
  replace hr := Lib.hid (hr.out.step (by first | exact h1 | exact (Since.alloc (Since.refl _) _).step h1 | exact (Since.alloc (Since.alloc (Since.refl _) _) _).step h1 | exact (Since.drew (Since.refl _)).step h1 | exact (Since.alloc (Since.alloc (Since.alloc (Since.refl _) _) _) _).step h1))
  replace HS := Lib.hid (HS.out.step (by first | exact h1 | exact (Since.alloc (Since.refl _) _).step h1 | exact (Since.alloc (Since.alloc (Since.refl _) _) _).step h1 | exact (Since.drew (Since.refl _)).step h1 | exact (Since.alloc (Since.alloc (Since.alloc (Since.refl _) _) _) _).step h1))
  clear h1
  have hb := Lib.hid (hb_new w1 KT trivial #[.int .i64 n, .string l, .int .i64 k, .string u, .string m, .string v, .string e] 68)
  replace hr := Lib.hid (hr.out.step ((Below.refl _ w1).alloc (Nat.le_refl _) (.cells #[.int .i64 n, .string l, .int .i64 k, .string u, .string m, .string v, .string e] 68)))
  replace HS := Lib.hid (HS.out.step hb.out.since)
  obtain ⟨_, m0, m1, m2, m3, m4, m5, m6⟩ := hb7 hb
  go_wp2_with fail
  go_region_law (go_simp; go_at_call 33; refine c2.calls0 ?_; intro o w2 ho h2; replace hr := Lib.hid (hr.out.step (by first | exact h2 | exact Since.step (Since.drew (Since.refl _)) h2)); replace hb := Lib.hid (hb.out.step (by first | exact h2 | exact Since.step (Since.drew (Since.refl _)) h2)); replace HS := Lib.hid (HS.out.step (by first | exact h2 | exact Since.step (Since.drew (Since.refl _)) h2)); have HO := Lib.hid ho; clear ho h2)
  all_goals
    clear m0 m1 m2 m3 m4 m5 m6
    go_wp2_with fail
    refine c3.calls0 HO.out ?_
    intro a w3 ha h3
    replace hr := Lib.hid (hr.out.step h3)
    replace hb := Lib.hid (hb.out.step h3)
    replace HS := Lib.hid (HS.out.step h3)
    obtain ⟨A, d, hav, _⟩ := ha.slice
    subst hav
    have HA := Lib.hid ha
    clear h3 ha HO
    go_wp2_with (refine wpList_store_row rfl 35 _ _ rfl w.heap.size (Z9) (by rfl) (by rfl) _ _ hr.out.row (rz9_info) rfl (z9_one) ?_)
    exact bodyPost_ret (v := .tuple #[.agg Z9, .int .i64 E]) (results_cell_tmp2 Tryz.results11 _ _ _ _ _ _ _ _ rfl rfl (setRow_heap _ _ _ _ _ _ hr.out.row) Tryz.underlying35 rfl rz9_info) rfl ⟨rfl, below_setRow HS.out (Nat.le_refl _) _⟩
set_option maxRecDepth 100000 in
set_option maxHeartbeats 4000000 in
theorem rcut_un (s : ByteArray) (h0 : 0 < s.size) (h9 : s.size ≤ 9999) (n k : Int) (l u m v e : ByteArray) (hl : (n != (s.size : Int)) = false) (i1 : (16 : Int) ≤ (s.size : Int)) (T : ByteArray) (hT : s.extract 16 s.size = T) (c1 : Mak 32 #[.string s] (.tuple #[.agg #[.int .i64 n, .string l, .int .i64 k, .string u, .string m, .string v, .string e], .int .i64 0])) (O : List Opt.P2) (N D : Nat) (hD : (16 : Int) + (N : Int) = (D : Int)) (i2 : (0 : Int) ≤ (D : Int)) (i3 : (D : Int) ≤ (s.size : Int)) (c2 : Opt.MkO 33 #[.string T, .int .i64 k] O (N : Int) 0) (L : List A2) (c3 : MkF 34 O L 0) (R S : ByteArray) (hR : s.extract D s.size = R) (B : Bool) (hB : B = false ∨ S.size < 32 ∨ S.size % 16 ≠ 0) (c4 : Mak 35 #[.string R] (.tuple #[.string S, .bool B])) : Mak 11 #[.string s] (.tuple #[.agg Z9, .int .i64 5]) := by
  intro w
  subst hT
  cases B with
  | false =>
    clear hB
    have hr : Hid (HR w w.heap.size Z9 35 (w.alloc (.cells Z9 35))) := Lib.hid ⟨heap_alloc_new w _⟩
    have HS : Hid (Since w (w.alloc (.cells Z9 35))) := Lib.hid ((Since.refl w).alloc _)
    unfold Z9 at hr HS
    have b1 := some_bytes s (by omega)
    have b2 := some_bytes_f s (by omega)
    have t1 : decide ((9999 : Int) < (s.size : Int)) = false := decide_eq_false (by omega)
    go_enter Tryz.func11, Tryz.ntmps11
    go_wp2_with fail
    refine (c1.calls0) ?_
    intro w1 h1
    replace hr := Lib.hid (hr.out.step (by first | exact h1 | exact (Since.alloc (Since.refl _) _).step h1 | exact (Since.alloc (Since.alloc (Since.refl _) _) _).step h1 | exact (Since.drew (Since.refl _)).step h1 | exact (Since.alloc (Since.alloc (Since.alloc (Since.refl _) _) _) _).step h1))
    replace HS := Lib.hid (HS.out.step (by first | exact h1 | exact (Since.alloc (Since.refl _) _).step h1 | exact (Since.alloc (Since.alloc (Since.refl _) _) _).step h1 | exact (Since.drew (Since.refl _)).step h1 | exact (Since.alloc (Since.alloc (Since.alloc (Since.refl _) _) _) _).step h1))
    clear h1
    have hb := Lib.hid (hb_new w1 KT trivial #[.int .i64 n, .string l, .int .i64 k, .string u, .string m, .string v, .string e] 68)
    replace hr := Lib.hid (hr.out.step ((Below.refl _ w1).alloc (Nat.le_refl _) (.cells #[.int .i64 n, .string l, .int .i64 k, .string u, .string m, .string v, .string e] 68)))
    replace HS := Lib.hid (HS.out.step hb.out.since)
    obtain ⟨_, m0, m1, m2, m3, m4, m5, m6⟩ := hb7 hb
    go_wp2_with fail
    go_region_law (go_simp; go_at_call 33; refine c2.calls0 ?_; intro o w2 ho h2; replace hr := Lib.hid (hr.out.step (by first | exact h2 | exact Since.step (Since.drew (Since.refl _)) h2)); replace hb := Lib.hid (hb.out.step (by first | exact h2 | exact Since.step (Since.drew (Since.refl _)) h2)); replace HS := Lib.hid (HS.out.step (by first | exact h2 | exact Since.step (Since.drew (Since.refl _)) h2)); have HO := Lib.hid ho; clear ho h2)
    all_goals
      clear m0 m1 m2 m3 m4 m5 m6
      go_wp2_with fail
      refine c3.calls0 HO.out ?_
      intro a w3 ha h3
      replace hr := Lib.hid (hr.out.step h3)
      replace hb := Lib.hid (hb.out.step h3)
      replace HS := Lib.hid (HS.out.step h3)
      obtain ⟨A, d, hav, _⟩ := ha.slice
      subst hav
      have HA := Lib.hid ha
      clear h3 ha HO
      go_wp2_with fail
      refine c4.calls0 ?_
      intro w4 h4
      replace hr := Lib.hid (hr.out.step h4)
      replace hb := Lib.hid (hb.out.step h4)
      replace HS := Lib.hid (HS.out.step h4)
      replace HA := Lib.hid (HA.out.since h4)
      clear h4
      go_wp2_with (refine wpList_store_row rfl 35 _ _ rfl w.heap.size (Z9) (by rfl) (by rfl) _ _ hr.out.row (rz9_info) rfl (z9_one) ?_)
      exact bodyPost_ret (v := .tuple #[.agg Z9, .int .i64 5]) (results_cell_tmp2 Tryz.results11 _ _ _ _ _ _ _ _ rfl rfl (setRow_heap _ _ _ _ _ _ hr.out.row) Tryz.underlying35 rfl rz9_info) rfl ⟨rfl, below_setRow HS.out (Nat.le_refl _) _⟩
  | true =>
    by_cases h32 : S.size < 32
    · have t2 : decide ((S.size : Int) < 32) = true := decide_eq_true (by omega)
      clear hB h32
      have hr : Hid (HR w w.heap.size Z9 35 (w.alloc (.cells Z9 35))) := Lib.hid ⟨heap_alloc_new w _⟩
      have HS : Hid (Since w (w.alloc (.cells Z9 35))) := Lib.hid ((Since.refl w).alloc _)
      unfold Z9 at hr HS
      have b1 := some_bytes s (by omega)
      have b2 := some_bytes_f s (by omega)
      have t1 : decide ((9999 : Int) < (s.size : Int)) = false := decide_eq_false (by omega)
      go_enter Tryz.func11, Tryz.ntmps11
      go_wp2_with fail
      refine (c1.calls0) ?_
      intro w1 h1
      replace hr := Lib.hid (hr.out.step (by first | exact h1 | exact (Since.alloc (Since.refl _) _).step h1 | exact (Since.alloc (Since.alloc (Since.refl _) _) _).step h1 | exact (Since.drew (Since.refl _)).step h1 | exact (Since.alloc (Since.alloc (Since.alloc (Since.refl _) _) _) _).step h1))
      replace HS := Lib.hid (HS.out.step (by first | exact h1 | exact (Since.alloc (Since.refl _) _).step h1 | exact (Since.alloc (Since.alloc (Since.refl _) _) _).step h1 | exact (Since.drew (Since.refl _)).step h1 | exact (Since.alloc (Since.alloc (Since.alloc (Since.refl _) _) _) _).step h1))
      clear h1
      have hb := Lib.hid (hb_new w1 KT trivial #[.int .i64 n, .string l, .int .i64 k, .string u, .string m, .string v, .string e] 68)
      replace hr := Lib.hid (hr.out.step ((Below.refl _ w1).alloc (Nat.le_refl _) (.cells #[.int .i64 n, .string l, .int .i64 k, .string u, .string m, .string v, .string e] 68)))
      replace HS := Lib.hid (HS.out.step hb.out.since)
      obtain ⟨_, m0, m1, m2, m3, m4, m5, m6⟩ := hb7 hb
      go_wp2_with fail
      go_region_law (go_simp; go_at_call 33; refine c2.calls0 ?_; intro o w2 ho h2; replace hr := Lib.hid (hr.out.step (by first | exact h2 | exact Since.step (Since.drew (Since.refl _)) h2)); replace hb := Lib.hid (hb.out.step (by first | exact h2 | exact Since.step (Since.drew (Since.refl _)) h2)); replace HS := Lib.hid (HS.out.step (by first | exact h2 | exact Since.step (Since.drew (Since.refl _)) h2)); have HO := Lib.hid ho; clear ho h2)
      all_goals
        clear m0 m1 m2 m3 m4 m5 m6
        go_wp2_with fail
        refine c3.calls0 HO.out ?_
        intro a w3 ha h3
        replace hr := Lib.hid (hr.out.step h3)
        replace hb := Lib.hid (hb.out.step h3)
        replace HS := Lib.hid (HS.out.step h3)
        obtain ⟨A, d, hav, _⟩ := ha.slice
        subst hav
        have HA := Lib.hid ha
        clear h3 ha HO
        go_wp2_with fail
        refine c4.calls0 ?_
        intro w4 h4
        replace hr := Lib.hid (hr.out.step h4)
        replace hb := Lib.hid (hb.out.step h4)
        replace HS := Lib.hid (HS.out.step h4)
        replace HA := Lib.hid (HA.out.since h4)
        clear h4
        go_wp2_with (refine wpList_store_row rfl 35 _ _ rfl w.heap.size (Z9) (by rfl) (by rfl) _ _ hr.out.row (rz9_info) rfl (z9_one) ?_)
        exact bodyPost_ret (v := .tuple #[.agg Z9, .int .i64 5]) (results_cell_tmp2 Tryz.results11 _ _ _ _ _ _ _ _ rfl rfl (setRow_heap _ _ _ _ _ _ hr.out.row) Tryz.underlying35 rfl rz9_info) rfl ⟨rfl, below_setRow HS.out (Nat.le_refl _) _⟩
    · have t2 : decide ((S.size : Int) < 32) = false := decide_eq_false (by omega)
      have hm : S.size % 16 ≠ 0 := by rcases hB with h | h | h; cases h; omega; exact h
      have t3 : ((S.size : Int) % 16 != 0) = true := bne_iff_ne.2 (by omega)
      have t4 : ((S.size : Int).tmod 16 != 0) = true := bne_iff_ne.2 (by rw [Int.tmod_eq_emod_of_nonneg (by omega)]; omega)
      clear hB h32 hm
      have hr : Hid (HR w w.heap.size Z9 35 (w.alloc (.cells Z9 35))) := Lib.hid ⟨heap_alloc_new w _⟩
      have HS : Hid (Since w (w.alloc (.cells Z9 35))) := Lib.hid ((Since.refl w).alloc _)
      unfold Z9 at hr HS
      have b1 := some_bytes s (by omega)
      have b2 := some_bytes_f s (by omega)
      have t1 : decide ((9999 : Int) < (s.size : Int)) = false := decide_eq_false (by omega)
      go_enter Tryz.func11, Tryz.ntmps11
      go_wp2_with fail
      refine (c1.calls0) ?_
      intro w1 h1
      replace hr := Lib.hid (hr.out.step (by first | exact h1 | exact (Since.alloc (Since.refl _) _).step h1 | exact (Since.alloc (Since.alloc (Since.refl _) _) _).step h1 | exact (Since.drew (Since.refl _)).step h1 | exact (Since.alloc (Since.alloc (Since.alloc (Since.refl _) _) _) _).step h1))
      replace HS := Lib.hid (HS.out.step (by first | exact h1 | exact (Since.alloc (Since.refl _) _).step h1 | exact (Since.alloc (Since.alloc (Since.refl _) _) _).step h1 | exact (Since.drew (Since.refl _)).step h1 | exact (Since.alloc (Since.alloc (Since.alloc (Since.refl _) _) _) _).step h1))
      clear h1
      have hb := Lib.hid (hb_new w1 KT trivial #[.int .i64 n, .string l, .int .i64 k, .string u, .string m, .string v, .string e] 68)
      replace hr := Lib.hid (hr.out.step ((Below.refl _ w1).alloc (Nat.le_refl _) (.cells #[.int .i64 n, .string l, .int .i64 k, .string u, .string m, .string v, .string e] 68)))
      replace HS := Lib.hid (HS.out.step hb.out.since)
      obtain ⟨_, m0, m1, m2, m3, m4, m5, m6⟩ := hb7 hb
      go_wp2_with fail
      go_region_law (go_simp; go_at_call 33; refine c2.calls0 ?_; intro o w2 ho h2; replace hr := Lib.hid (hr.out.step (by first | exact h2 | exact Since.step (Since.drew (Since.refl _)) h2)); replace hb := Lib.hid (hb.out.step (by first | exact h2 | exact Since.step (Since.drew (Since.refl _)) h2)); replace HS := Lib.hid (HS.out.step (by first | exact h2 | exact Since.step (Since.drew (Since.refl _)) h2)); have HO := Lib.hid ho; clear ho h2)
      all_goals
        clear m0 m1 m2 m3 m4 m5 m6
        go_wp2_with fail
        refine c3.calls0 HO.out ?_
        intro a w3 ha h3
        replace hr := Lib.hid (hr.out.step h3)
        replace hb := Lib.hid (hb.out.step h3)
        replace HS := Lib.hid (HS.out.step h3)
        obtain ⟨A, d, hav, _⟩ := ha.slice
        subst hav
        have HA := Lib.hid ha
        clear h3 ha HO
        go_wp2_with fail
        refine c4.calls0 ?_
        intro w4 h4
        replace hr := Lib.hid (hr.out.step h4)
        replace hb := Lib.hid (hb.out.step h4)
        replace HS := Lib.hid (HS.out.step h4)
        replace HA := Lib.hid (HA.out.since h4)
        clear h4
        go_wp2_with (refine wpList_store_row rfl 35 _ _ rfl w.heap.size (Z9) (by rfl) (by rfl) _ _ hr.out.row (rz9_info) rfl (z9_one) ?_)
        exact bodyPost_ret (v := .tuple #[.agg Z9, .int .i64 5]) (results_cell_tmp2 Tryz.results11 _ _ _ _ _ _ _ _ rfl rfl (setRow_heap _ _ _ _ _ _ hr.out.row) Tryz.underlying35 rfl rz9_info) rfl ⟨rfl, below_setRow HS.out (Nat.le_refl _) _⟩
theorem cutK_b (s : ByteArray) : 0 ≤ cutK s ∧ cutK s ≤ 9223372036854775807 := by
  have hl : (s.extract 12 14).data.toList.length ≤ 2 := by
    show (s.extract 12 14).size ≤ 2
    rw [ByteArray.size_extract]; omega
  unfold cutK
  generalize (s.extract 12 14).data.toList = t at hl ⊢
  match t, hl with
  | [], _ => decide
  | [a], _ => have := a.toNat_lt; unfold Dig.numD; simp only [List.foldl]; omega
  | [a, b], _ => have := a.toNat_lt; have := b.toNat_lt; unfold Dig.numD; simp only [List.foldl]; omega
def CutR (s l u m v e : ByteArray) (L : List A2) (P C G : ByteArray) : Prop := ∀ w, Calls Tryz.prog 11 #[.string s] w fun x w' => ∃ a, x = .returned (.tuple #[.agg (C9 l u m v e a P C G), .int .i64 0]) ∧ AttsS w' a L ∧ Below w.heap.size w w'
set_option maxRecDepth 100000 in
theorem CutR.calls0 {s l u m v e : ByteArray} {L : List A2} {P C G : ByteArray} (h : CutR s l u m v e L P C G) {w : World} {R : Ending → World → Prop} (k : ∀ a w', AttsS w' a L → Since w w' → R (.returned (.tuple #[.agg (C9 l u m v e a P C G), .int .i64 0])) w') : Calls Tryz.prog 11 #[.string s] w R :=
  (h w).mono fun _ _ ⟨a, he, ha, hb⟩ => by subst he; exact k a _ ha hb
set_option maxRecDepth 100000 in
set_option maxHeartbeats 4000000 in
theorem rcut_ok (s : ByteArray) (h0 : 0 < s.size) (h9 : s.size ≤ 9999) (n k : Int) (l u m v e : ByteArray) (hl : (n != (s.size : Int)) = false) (i1 : (16 : Int) ≤ (s.size : Int)) (T : ByteArray) (hT : s.extract 16 s.size = T) (c1 : Mak 32 #[.string s] (.tuple #[.agg #[.int .i64 n, .string l, .int .i64 k, .string u, .string m, .string v, .string e], .int .i64 0])) (O : List Opt.P2) (N D : Nat) (hD : (16 : Int) + (N : Int) = (D : Int)) (i2 : (0 : Int) ≤ (D : Int)) (i3 : (D : Int) ≤ (s.size : Int)) (c2 : Opt.MkO 33 #[.string T, .int .i64 k] O (N : Int) 0) (L : List A2) (c3 : MkF 34 O L 0) (P R S C G : ByteArray) (hP : s.extract 0 D = P) (hR : s.extract D s.size = R) (hz : S.size ≤ 1000000) (h32 : 32 ≤ S.size) (h16 : S.size % 16 = 0) (M : Nat) (hM : M + 16 = S.size) (hC : S.extract 0 M = C) (hG : S.extract M S.size = G) (c4 : Mak 35 #[.string R] (.tuple #[.string S, .bool true])) : CutR s l u m v e L P C G := by
  intro w
  have t2 : decide ((S.size : Int) < 32) = false := decide_eq_false (by omega)
  have t3 : ((S.size : Int) % 16 != 0) = false := bne_eq_false_iff_eq.2 (by omega)
  have t4 : ((S.size : Int).tmod 16 != 0) = false := bne_eq_false_iff_eq.2 (by rw [Int.tmod_eq_emod_of_nonneg (by omega)]; omega)
  have q1 : IntKind.i64.wrap ((S.size : Int) - 16) = (M : Int) := by rw [IntWalk.i64_in _ (by omega)]; omega
  have q2 : (S.size : Int) - 16 = (M : Int) := by omega
  have q0 : IntKind.i64.wrap (D : Int) = (D : Int) := IntWalk.i64_in _ (by omega)
  have q3 : IntKind.i64.wrap (M : Int) = (M : Int) := IntWalk.i64_in _ (by omega)
  have i4 : (0 : Int) ≤ (M : Int) := by omega
  have i5 : (M : Int) ≤ (S.size : Int) := by omega
  subst hT
  clear h16 hM
  have hr : Hid (HR w w.heap.size Z9 35 (w.alloc (.cells Z9 35))) := Lib.hid ⟨heap_alloc_new w _⟩
  have HS : Hid (Since w (w.alloc (.cells Z9 35))) := Lib.hid ((Since.refl w).alloc _)
  unfold Z9 at hr HS
  have b1 := some_bytes s (by omega)
  have b2 := some_bytes_f s (by omega)
  have t1 : decide ((9999 : Int) < (s.size : Int)) = false := decide_eq_false (by omega)
  go_enter Tryz.func11, Tryz.ntmps11
  go_wp2_with fail
  refine (c1.calls0) ?_
  intro w1 h1
  replace hr := Lib.hid (hr.out.step (by first | exact h1 | exact (Since.alloc (Since.refl _) _).step h1 | exact (Since.alloc (Since.alloc (Since.refl _) _) _).step h1 | exact (Since.drew (Since.refl _)).step h1 | exact (Since.alloc (Since.alloc (Since.alloc (Since.refl _) _) _) _).step h1))
  replace HS := Lib.hid (HS.out.step (by first | exact h1 | exact (Since.alloc (Since.refl _) _).step h1 | exact (Since.alloc (Since.alloc (Since.refl _) _) _).step h1 | exact (Since.drew (Since.refl _)).step h1 | exact (Since.alloc (Since.alloc (Since.alloc (Since.refl _) _) _) _).step h1))
  clear h1
  have hb := Lib.hid (hb_new w1 KT trivial #[.int .i64 n, .string l, .int .i64 k, .string u, .string m, .string v, .string e] 68)
  replace hr := Lib.hid (hr.out.step ((Below.refl _ w1).alloc (Nat.le_refl _) (.cells #[.int .i64 n, .string l, .int .i64 k, .string u, .string m, .string v, .string e] 68)))
  replace HS := Lib.hid (HS.out.step hb.out.since)
  obtain ⟨_, m0, m1, m2, m3, m4, m5, m6⟩ := hb7 hb
  go_wp2_with fail
  go_region_law (go_simp; go_at_call 33; refine c2.calls0 ?_; intro o w2 ho h2; replace hr := Lib.hid (hr.out.step (by first | exact h2 | exact Since.step (Since.drew (Since.refl _)) h2)); replace hb := Lib.hid (hb.out.step (by first | exact h2 | exact Since.step (Since.drew (Since.refl _)) h2)); replace HS := Lib.hid (HS.out.step (by first | exact h2 | exact Since.step (Since.drew (Since.refl _)) h2)); have HO := Lib.hid ho; clear ho h2)
  all_goals
    clear m0 m1 m2 m3 m4 m5 m6
    go_wp2_with fail
    refine c3.calls1 HO.out ?_
    intro a w3 ha h3
    have hne : Hid (∀ b, a.blockOf = some b → b ≠ w.heap.size) := Lib.hid (fresh_ne ha.2 (Array.getElem?_eq_some_iff.1 hr.out.row).1)
    replace hr := Lib.hid (hr.out.step h3)
    replace hb := Lib.hid (hb.out.step h3)
    replace HS := Lib.hid (HS.out.step h3)
    have hA0 := ha.1
    obtain ⟨A, d, hav, _⟩ := hA0.slice
    subst hav
    have HA := Lib.hid hA0
    clear h3 ha HO hA0
    go_wp2_with fail
    refine c4.calls0 ?_
    intro w4 h4
    replace hr := Lib.hid (hr.out.step h4)
    replace hb := Lib.hid (hb.out.step h4)
    replace HS := Lib.hid (HS.out.step h4)
    replace HA := Lib.hid (HA.out.since h4)
    clear h4
    obtain ⟨_, m0, m1, m2, m3, m4, m5, m6⟩ := hb7 hb
    go_wp2_with fail
    go_still_tail 20, (by kernel_rfl)
    refine wpList_store_row (w := w4.drew) rfl 35 _ _ rfl w.heap.size (C9 l u m v e (.slice A L.length d) P C G) (by rfl) (by rfl) _ _ hr.out.row (rc9_info _ _ _ _ _ _ _ _ _) rfl (c9_one _ _ _ _ _ _ _ _ _ _ _) ?_
    go_wp2_with fail
    exact bodyPost_ret (v := .tuple #[.agg (C9 l u m v e (.slice A L.length d) P C G), .int .i64 0]) (results_cell_tmp2 Tryz.results11 _ _ _ _ _ _ _ _ rfl rfl (setRow_heap w4.drew _ _ _ _ _ hr.out.row) Tryz.underlying35 rfl (rc9_info _ _ _ _ _ _ _ _ _)) rfl ⟨_, rfl, far_rows (HA.out.since (Since.drew (Since.refl _))) w.heap.size hne.out _, below_setRow (Since.drew HS.out) (Nat.le_refl _) _⟩
theorem rcut_bad (s : ByteArray) (hm : s.size ≤ 60000) (h : cutE s ≠ 0) : Mak 11 #[.string s] (.tuple #[.agg Z9, .int .i64 (cutE s)]) := by
  by_cases h0 : s.size = 0
  · have e : cutE s = 3 := by have e2 : begE s = 3 := if_pos h0; unfold cutE; rw [e2, if_pos (by decide)]
    rw [e]; exact rcut_early s 3 (Or.inl ⟨h0, rfl⟩)
  by_cases h9 : 9999 < s.size
  · have e : cutE s = 4 := by have e2 : begE s = 4 := by { unfold begE; rw [if_neg h0, if_pos h9] }; unfold cutE; rw [e2, if_pos (by decide)]
    rw [e]; exact rcut_early s 4 (Or.inr ⟨h9, rfl⟩)
  have c1 := rdec_any s (by omega)
  rcases dec_cases s with ⟨hE, hV⟩ | ⟨hE, hF, hk⟩
  · have e : begE s = Header.decE s := by unfold begE; rw [if_neg h0, if_neg h9, if_pos hE]
    have e2 : cutE s = Header.decE s := by unfold cutE; rw [e, if_pos hE]
    rw [e2]
    rw [hV] at c1
    exact rcut_dec s (by omega) (by omega) 0 0 _ _ _ _ _ _ (beq_eq_false_iff_ne.2 hE) (bne_iff_ne.2 hE) c1
  · have hv : Header.decV s = C7 (Dig.numD (s.extract 1 5).data.toList : Int) (cutK s) (s.extract 7 8) (s.extract 5 7) (s.extract 8 9) (s.extract 9 11) (s.extract 11 12) := if_pos ⟨hF, hk⟩
    rw [hv, hE] at c1
    by_cases hn : Dig.numD (s.extract 1 5).data.toList = s.size
    case neg =>
      have e : begE s = 5 := by unfold begE; rw [if_neg h0, if_neg h9, if_neg (fun h => h hE), if_pos hn]
      have e2 : cutE s = 5 := by unfold cutE; rw [e, if_pos (by decide)]
      rw [e2]
      exact rcut_len s (by omega) (by omega) _ _ _ _ _ _ _ (bne_iff_ne.2 (by omega)) c1
    have hb : begE s = 0 := by unfold begE; rw [if_neg h0, if_neg h9, if_neg (fun h => h hE), if_neg (fun h => h hn)]
    have h16 : 16 ≤ s.size := (beg_ok0 s hb).1
    have hl : (((Dig.numD (s.extract 1 5).data.toList : Nat) : Int) != (s.size : Int)) = false := bne_eq_false_iff_eq.2 (by omega)
    unfold cutE at h ⊢
    rw [if_neg (fun h2 => h2 hb)] at h ⊢
    have hTs : (cutT s).size ≤ 9999 := by unfold cutT; rw [ByteArray.size_extract]; omega
    have hKb := cutK_b s
    have c2 := Opt.runpack_any (cutT s) hTs (cutK s) (by omega)
    by_cases hu : Opt.unpE (cutT s) (cutK s) = 0
    case neg =>
      rw [if_pos hu] at h ⊢
      exact rcut_unp s (by omega) (by omega) _ _ _ _ _ _ _ hl (by omega) (cutT s) rfl c1 _ _ _ (beq_eq_false_iff_ne.2 hu) (bne_iff_ne.2 hu) c2
    rw [if_neg (fun h2 => h2 hu)] at h ⊢
    obtain ⟨u1, u2, u3⟩ := unp_bounds _ _ hu
    rw [hu] at c2
    have c3 := rfrom_mk (cutO s) (fun p hp => by have := u3 p hp; omega) rdecode_mk
    by_cases hf : fE (cutO s) = 0
    case neg =>
      rw [if_pos hf] at h ⊢
      exact rcut_from s (by omega) (by omega) _ _ _ _ _ _ _ hl (by omega) (cutT s) rfl c1 _ _ _ (beq_eq_false_iff_ne.2 hf) (bne_iff_ne.2 hf) c2 _ c3
    rw [if_neg (fun h2 => h2 hf)] at h ⊢
    rw [hf] at c3
    have hN : Opt.unpN (cutT s) (cutK s) = ((Opt.unpN (cutT s) (cutK s)).toNat : Int) := by omega
    have hTz : (cutT s).size = s.size - 16 := by unfold cutT; rw [ByteArray.size_extract]; omega
    rw [hN] at c2
    have c4 := runhex_all (s.extract (cutD s) s.size) (by rw [ByteArray.size_extract]; omega)
    have hsel : okT (cutR s) = false := by
      unfold selE at h
      cases hq : okT (cutR s) with
      | false => rfl
      | true => rw [hq, if_pos rfl] at h; exact absurd rfl h
    have e5 : selE (cutR s) = 5 := by unfold selE; rw [hsel, if_neg (by decide)]
    rw [e5]
    refine rcut_un s (by omega) (by omega) _ _ _ _ _ _ _ hl (by omega) (cutT s) rfl c1 _ (Opt.unpN (cutT s) (cutK s)).toNat (cutD s) (by unfold cutD; omega) (by omega) (by unfold cutD; omega) c2 _ c3 _ _ rfl _ ?_ c4
    cases hq : Dig.unB (s.extract (cutD s) s.size).data.toList with
    | false => exact Or.inl rfl
    | true =>
      right
      apply Classical.byContradiction
      intro hh
      have : okT (cutR s) = true := by
        unfold okT cutR
        rw [hq, decide_eq_true (by omega), decide_eq_true (by omega)]; rfl
      rw [hsel] at this; cases this
theorem rcut_good (s : ByteArray) (h : cutE s = 0) : CutR s (s.extract 7 8) (s.extract 5 7) (s.extract 8 9) (s.extract 9 11) (s.extract 11 12) (fL (cutO s)) (s.extract 0 (cutD s)) (selC (cutR s)) (selT (cutR s)) := by
  obtain ⟨h1, h2, h3, h4⟩ := cut_facts s h
  obtain ⟨d1, d2, d3, d4⟩ := cut_sizes s h
  obtain ⟨h16, h9, hv, hF, hk, hn⟩ := beg_ok0 s h1
  obtain ⟨u1, u2, u3⟩ := unp_bounds _ _ h2
  have c1 := rdec_any s (by omega)
  rcases dec_cases s with ⟨hE, hV⟩ | ⟨hE, _, _⟩
  · exfalso; rw [hV] at hv; unfold begE at h1; rw [if_neg (by omega), if_neg (by omega), if_pos hE] at h1; exact hE h1
  rw [hv, hE] at c1
  have hKb := cutK_b s
  have hTz : (cutT s).size = s.size - 16 := by unfold cutT; rw [ByteArray.size_extract]; omega
  have c2 := Opt.runpack_any (cutT s) (by omega) (cutK s) (by omega)
  rw [h2, d4] at c2
  have c3 := rfrom_mk (cutO s) (fun p hp => by have := u3 p hp; omega) rdecode_mk
  rw [h3] at c3
  have c4 := runhex_all (s.extract (cutD s) s.size) (by rw [ByteArray.size_extract]; omega)
  have hsel : okT (cutR s) = true := by
    unfold selE at h4
    cases hq : okT (cutR s) with
    | true => rfl
    | false => rw [hq, if_neg (by decide)] at h4; cases h4
  have hC : selC (cutR s) = (Dig.unS (cutR s)).extract 0 ((Dig.unS (cutR s)).size - 16) := by unfold selC; rw [if_pos hsel]
  have hG : selT (cutR s) = (Dig.unS (cutR s)).extract ((Dig.unS (cutR s)).size - 16) (Dig.unS (cutR s)).size := by unfold selT; rw [if_pos hsel]
  unfold okT at hsel
  simp only [Bool.and_eq_true, decide_eq_true_eq] at hsel
  obtain ⟨⟨g1, g2⟩, g3⟩ := hsel
  have g1' : Dig.unB (s.extract (cutD s) s.size).data.toList = true := g1
  rw [g1'] at c4
  have hUz : (Dig.unS (cutR s)).size ≤ 1000000 := by
    have hl := unS_le (cutR s)
    have hl2 : (cutR s).length = (s.extract (cutD s) s.size).size := rfl
    rw [ByteArray.size_extract] at hl2
    omega
  rw [hC, hG]
  exact rcut_ok s (by omega) (by omega) _ _ _ _ _ _ _ (bne_eq_false_iff_eq.2 (by omega)) (by omega) (cutT s) rfl c1 _ (Opt.unpN (cutT s) (cutK s)).toNat (cutD s) (by unfold cutD; omega) (by omega) (by unfold cutD; omega) c2 _ c3 _ _ (Dig.unS (cutR s)) _ _ rfl rfl hUz g2 g3 ((Dig.unS (cutR s)).size - 16) (by omega) rfl rfl c4
end Frame
end Go.Proofs.YtapjmbjoklppnaaGreatDoor
