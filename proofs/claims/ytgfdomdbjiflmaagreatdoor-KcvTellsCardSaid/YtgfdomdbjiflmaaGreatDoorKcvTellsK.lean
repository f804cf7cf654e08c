/- The law KcvTells: any record's check values, and whether any bytes are one, are as the document says; no conditions. -/
import Derived.Test.YtgfdomdbjiflmaaGreatDoorRows
import Derived.WalkKit
import Derived.ProofKit
import Derived.OpenShut
import Derived.Lib.Hide
import Derived.Test.YtgfdomdbjiflmaaGreatDoorKv51
import Derived.Test.YtgfdomdbjiflmaaGreatDoorKv49
import Derived.Test.YtgfdomdbjiflmaaGreatDoorCards
import Derived.Test.YtgfdomdbjiflmaaGreatDoorTie
import Derived.LaidMore
import Derived.SevenTiedAt
import Derived.Stop.Joined
import Derived.Lay
namespace Go.Proofs.YtgfdomdbjiflmaaGreatDoor.kcvTells
open Go.ChangeShapes Go.WideShapes Go.ChangeAt Go.RowKit
open Att Rec Kcv Kind

set_option maxRecDepth 100000 in
set_option maxHeartbeats 8000000 in
theorem core (w : World) (K : Int) (k : ByteArray) (A : Option Addr) (n q : Nat) (L : List A2) (u m v e y : ByteArray) (hx : AttsS w (.slice A n q) L) (l1 : y.size ≤ 100) (c0 : RdR 12 L (fun x => #[rv K k u m v e x]) (.bool true))
    (P Q : ByteArray) (E F G : Int) (B : Bool) (c1 : RdR 14 L (fun x => #[rv K k u m v e x]) (.tuple #[.string P, .int .i64 E])) (c2 : RdR 15 L (fun x => #[rv K k u m v e x]) (.tuple #[.string P, .int .i64 E]))
    (c3 : RdR 16 L (fun x => #[rv K k u m v e x]) (.tuple #[.string Q, .int .i64 F])) (c4 : RdR 17 L (fun x => #[rv K k u m v e x]) (.tuple #[.string Q, .int .i64 F]))
    (c5 : RdR 18 L (fun x => #[rv K k u m v e x, .string y]) (.tuple #[.bool B, .int .i64 G])) (c6 : RdR 19 L (fun x => #[rv K k u m v e x, .string y]) (.tuple #[.bool B, .int .i64 G])) (hT : Tab2 w) :
    Calls Tryz.prog 4 #[.agg #[.int .i64 K, .string k, .slice A n q, .string u, .string m, .string v, .string e], .string y] w fun x w' => x = .returned (.bool true) ∧ Since w w' := by
  have t1 : decide ((100 : Int) < (y.size : Int)) = false := decide_eq_false (by omega)
  have b1 : (E == E) = true := beq_self_eq_true E
  have b2 : (F == F) = true := beq_self_eq_true F
  have b3 : (G == G) = true := beq_self_eq_true G
  have b4 : (P.toList == P.toList) = true := beq_self_eq_true _
  have b5 : (Q.toList == Q.toList) = true := beq_self_eq_true _
  have b6 : (B == B) = true := beq_self_eq_true _
  clear l1
  have HX9 := Lib.hid hx
  have hp := Lib.hid (hb_new w Tab2 hT #[.int .i64 K, .string k, .slice A n q, .string u, .string m, .string v, .string e] 34)
  have HX := Lib.hid (hx.since hp.out.since)
  have HS := Lib.hid hp.out.since
  obtain ⟨_, m0, m1, m2, m3, m4, m5, m6⟩ := hb7 hp
  have c9 := awake_k
  clear hx hT
  go_enter Tryz.func4, Tryz.ntmps4
  go_wp2_with fail
  clear m0 m1 m2 m3 m4 m5 m6
  refine (c0.calls0 hp.out.tabs HX.out) ?_
  intro w1 h1
  replace hp := Lib.hid (hp.out.step (by first | exact h1 | exact (Since.alloc (Since.refl _) _).step h1 | exact (Since.alloc (Since.alloc (Since.refl _) _) _).step h1 | exact (Since.drew (Since.refl _)).step h1 | exact (Since.alloc (Since.alloc (Since.alloc (Since.refl _) _) _) _).step h1))
  replace HX := Lib.hid (HX.out.since (by first | exact h1 | exact (Since.alloc (Since.refl _) _).step h1 | exact (Since.alloc (Since.alloc (Since.refl _) _) _).step h1 | exact (Since.drew (Since.refl _)).step h1 | exact (Since.alloc (Since.alloc (Since.alloc (Since.refl _) _) _) _).step h1))
  replace HS := Lib.hid (HS.out.step (by first | exact h1 | exact (Since.alloc (Since.refl _) _).step h1 | exact (Since.alloc (Since.alloc (Since.refl _) _) _).step h1 | exact (Since.drew (Since.refl _)).step h1 | exact (Since.alloc (Since.alloc (Since.alloc (Since.refl _) _) _) _).step h1))
  clear h1
  obtain ⟨_, m0, m1, m2, m3, m4, m5, m6⟩ := hb7 hp
  go_wp2_with fail
  clear m0 m1 m2 m3 m4 m5 m6
  refine (c1.calls0 hp.out.tabs HX.out) ?_
  intro w2 h2
  replace hp := Lib.hid (hp.out.step (by first | exact h2 | exact (Since.alloc (Since.refl _) _).step h2 | exact (Since.alloc (Since.alloc (Since.refl _) _) _).step h2 | exact (Since.drew (Since.refl _)).step h2 | exact (Since.alloc (Since.alloc (Since.alloc (Since.refl _) _) _) _).step h2))
  replace HX := Lib.hid (HX.out.since (by first | exact h2 | exact (Since.alloc (Since.refl _) _).step h2 | exact (Since.alloc (Since.alloc (Since.refl _) _) _).step h2 | exact (Since.drew (Since.refl _)).step h2 | exact (Since.alloc (Since.alloc (Since.alloc (Since.refl _) _) _) _).step h2))
  replace HS := Lib.hid (HS.out.step (by first | exact h2 | exact (Since.alloc (Since.refl _) _).step h2 | exact (Since.alloc (Since.alloc (Since.refl _) _) _).step h2 | exact (Since.drew (Since.refl _)).step h2 | exact (Since.alloc (Since.alloc (Since.alloc (Since.refl _) _) _) _).step h2))
  clear h2
  obtain ⟨_, m0, m1, m2, m3, m4, m5, m6⟩ := hb7 hp
  go_wp2_with fail
  clear m0 m1 m2 m3 m4 m5 m6
  refine (c2.calls0 hp.out.tabs HX.out) ?_
  intro w3 h3
  replace hp := Lib.hid (hp.out.step (by first | exact h3 | exact (Since.alloc (Since.refl _) _).step h3 | exact (Since.alloc (Since.alloc (Since.refl _) _) _).step h3 | exact (Since.drew (Since.refl _)).step h3 | exact (Since.alloc (Since.alloc (Since.alloc (Since.refl _) _) _) _).step h3))
  replace HX := Lib.hid (HX.out.since (by first | exact h3 | exact (Since.alloc (Since.refl _) _).step h3 | exact (Since.alloc (Since.alloc (Since.refl _) _) _).step h3 | exact (Since.drew (Since.refl _)).step h3 | exact (Since.alloc (Since.alloc (Since.alloc (Since.refl _) _) _) _).step h3))
  replace HS := Lib.hid (HS.out.step (by first | exact h3 | exact (Since.alloc (Since.refl _) _).step h3 | exact (Since.alloc (Since.alloc (Since.refl _) _) _).step h3 | exact (Since.drew (Since.refl _)).step h3 | exact (Since.alloc (Since.alloc (Since.alloc (Since.refl _) _) _) _).step h3))
  clear h3
  obtain ⟨_, m0, m1, m2, m3, m4, m5, m6⟩ := hb7 hp
  go_wp2_with fail
  clear m0 m1 m2 m3 m4 m5 m6
  refine (c3.calls0 hp.out.tabs HX.out) ?_
  intro w4 h4
  replace hp := Lib.hid (hp.out.step (by first | exact h4 | exact (Since.alloc (Since.refl _) _).step h4 | exact (Since.alloc (Since.alloc (Since.refl _) _) _).step h4 | exact (Since.drew (Since.refl _)).step h4 | exact (Since.alloc (Since.alloc (Since.alloc (Since.refl _) _) _) _).step h4))
  replace HX := Lib.hid (HX.out.since (by first | exact h4 | exact (Since.alloc (Since.refl _) _).step h4 | exact (Since.alloc (Since.alloc (Since.refl _) _) _).step h4 | exact (Since.drew (Since.refl _)).step h4 | exact (Since.alloc (Since.alloc (Since.alloc (Since.refl _) _) _) _).step h4))
  replace HS := Lib.hid (HS.out.step (by first | exact h4 | exact (Since.alloc (Since.refl _) _).step h4 | exact (Since.alloc (Since.alloc (Since.refl _) _) _).step h4 | exact (Since.drew (Since.refl _)).step h4 | exact (Since.alloc (Since.alloc (Since.alloc (Since.refl _) _) _) _).step h4))
  clear h4
  obtain ⟨_, m0, m1, m2, m3, m4, m5, m6⟩ := hb7 hp
  go_wp2_with fail
  clear m0 m1 m2 m3 m4 m5 m6
  refine (c4.calls0 hp.out.tabs HX.out) ?_
  intro w5 h5
  replace hp := Lib.hid (hp.out.step (by first | exact h5 | exact (Since.alloc (Since.refl _) _).step h5 | exact (Since.alloc (Since.alloc (Since.refl _) _) _).step h5 | exact (Since.drew (Since.refl _)).step h5 | exact (Since.alloc (Since.alloc (Since.alloc (Since.refl _) _) _) _).step h5))
  replace HX := Lib.hid (HX.out.since (by first | exact h5 | exact (Since.alloc (Since.refl _) _).step h5 | exact (Since.alloc (Since.alloc (Since.refl _) _) _).step h5 | exact (Since.drew (Since.refl _)).step h5 | exact (Since.alloc (Since.alloc (Since.alloc (Since.refl _) _) _) _).step h5))
  replace HS := Lib.hid (HS.out.step (by first | exact h5 | exact (Since.alloc (Since.refl _) _).step h5 | exact (Since.alloc (Since.alloc (Since.refl _) _) _).step h5 | exact (Since.drew (Since.refl _)).step h5 | exact (Since.alloc (Since.alloc (Since.alloc (Since.refl _) _) _) _).step h5))
  clear h5
  obtain ⟨_, m0, m1, m2, m3, m4, m5, m6⟩ := hb7 hp
  go_wp2_with fail
  clear m0 m1 m2 m3 m4 m5 m6
  refine (c5.calls0 hp.out.tabs HX.out) ?_
  intro w6 h6
  replace hp := Lib.hid (hp.out.step (by first | exact h6 | exact (Since.alloc (Since.refl _) _).step h6 | exact (Since.alloc (Since.alloc (Since.refl _) _) _).step h6 | exact (Since.drew (Since.refl _)).step h6 | exact (Since.alloc (Since.alloc (Since.alloc (Since.refl _) _) _) _).step h6))
  replace HX := Lib.hid (HX.out.since (by first | exact h6 | exact (Since.alloc (Since.refl _) _).step h6 | exact (Since.alloc (Since.alloc (Since.refl _) _) _).step h6 | exact (Since.drew (Since.refl _)).step h6 | exact (Since.alloc (Since.alloc (Since.alloc (Since.refl _) _) _) _).step h6))
  replace HS := Lib.hid (HS.out.step (by first | exact h6 | exact (Since.alloc (Since.refl _) _).step h6 | exact (Since.alloc (Since.alloc (Since.refl _) _) _).step h6 | exact (Since.drew (Since.refl _)).step h6 | exact (Since.alloc (Since.alloc (Since.alloc (Since.refl _) _) _) _).step h6))
  clear h6
  obtain ⟨_, m0, m1, m2, m3, m4, m5, m6⟩ := hb7 hp
  go_wp2_with fail
  clear m0 m1 m2 m3 m4 m5 m6
  refine (c6.calls0 hp.out.tabs HX.out) ?_
  intro w7 h7
  replace hp := Lib.hid (hp.out.step (by first | exact h7 | exact (Since.alloc (Since.refl _) _).step h7 | exact (Since.alloc (Since.alloc (Since.refl _) _) _).step h7 | exact (Since.drew (Since.refl _)).step h7 | exact (Since.alloc (Since.alloc (Since.alloc (Since.refl _) _) _) _).step h7))
  replace HX := Lib.hid (HX.out.since (by first | exact h7 | exact (Since.alloc (Since.refl _) _).step h7 | exact (Since.alloc (Since.alloc (Since.refl _) _) _).step h7 | exact (Since.drew (Since.refl _)).step h7 | exact (Since.alloc (Since.alloc (Since.alloc (Since.refl _) _) _) _).step h7))
  replace HS := Lib.hid (HS.out.step (by first | exact h7 | exact (Since.alloc (Since.refl _) _).step h7 | exact (Since.alloc (Since.alloc (Since.refl _) _) _).step h7 | exact (Since.drew (Since.refl _)).step h7 | exact (Since.alloc (Since.alloc (Since.alloc (Since.refl _) _) _) _).step h7))
  clear h7
  go_wp2_with fail
  refine (c9.calls0 hp.out.tabs) ?_
  intro w8 h8
  replace HS := Lib.hid (HS.out.step (by first | exact h8 | exact (Since.alloc (Since.refl _) _).step h8 | exact (Since.alloc (Since.alloc (Since.refl _) _) _).step h8 | exact (Since.drew (Since.refl _)).step h8 | exact (Since.alloc (Since.alloc (Since.alloc (Since.refl _) _) _) _).step h8))
  clear h8
  go_wp2_with fail
  go_ret
  exact ⟨rfl, HS.out⟩
set_option maxRecDepth 100000 in
set_option maxHeartbeats 4000000 in
theorem big_1 (w : World) (K : Int) (k : ByteArray) (A : Option Addr) (n q : Nat) (L : List A2) (u m v e y : ByteArray) (hx : AttsS w (.slice A n q) L) (c0 : RdR 12 L (fun x => #[rv K k u m v e x]) (.bool false)) (hT : Tab2 w) :
    Calls Tryz.prog 4 #[.agg #[.int .i64 K, .string k, .slice A n q, .string u, .string m, .string v, .string e], .string y] w fun x w' => x = .returned (.bool true) ∧ Since w w' := by
  skip
  have HX9 := Lib.hid hx
  have hp := Lib.hid (hb_new w Tab2 hT #[.int .i64 K, .string k, .slice A n q, .string u, .string m, .string v, .string e] 34)
  have HX := Lib.hid (hx.since hp.out.since)
  have HS := Lib.hid hp.out.since
  obtain ⟨_, m0, m1, m2, m3, m4, m5, m6⟩ := hb7 hp
  have c9 := awake_k
  clear hx hT
  go_enter Tryz.func4, Tryz.ntmps4
  go_wp2_with fail
  clear m0 m1 m2 m3 m4 m5 m6
  refine (c0.calls0 hp.out.tabs HX.out) ?_
  intro w1 h1
  replace hp := Lib.hid (hp.out.step (by first | exact h1 | exact (Since.alloc (Since.refl _) _).step h1 | exact (Since.alloc (Since.alloc (Since.refl _) _) _).step h1 | exact (Since.drew (Since.refl _)).step h1 | exact (Since.alloc (Since.alloc (Since.alloc (Since.refl _) _) _) _).step h1))
  replace HX := Lib.hid (HX.out.since (by first | exact h1 | exact (Since.alloc (Since.refl _) _).step h1 | exact (Since.alloc (Since.alloc (Since.refl _) _) _).step h1 | exact (Since.drew (Since.refl _)).step h1 | exact (Since.alloc (Since.alloc (Since.alloc (Since.refl _) _) _) _).step h1))
  replace HS := Lib.hid (HS.out.step (by first | exact h1 | exact (Since.alloc (Since.refl _) _).step h1 | exact (Since.alloc (Since.alloc (Since.refl _) _) _).step h1 | exact (Since.drew (Since.refl _)).step h1 | exact (Since.alloc (Since.alloc (Since.alloc (Since.refl _) _) _) _).step h1))
  clear h1
  go_wp2_with fail
  refine (c9.calls0 hp.out.tabs) ?_
  intro w8 h8
  replace HS := Lib.hid (HS.out.step (by first | exact h8 | exact (Since.alloc (Since.refl _) _).step h8 | exact (Since.alloc (Since.alloc (Since.refl _) _) _).step h8 | exact (Since.drew (Since.refl _)).step h8 | exact (Since.alloc (Since.alloc (Since.alloc (Since.refl _) _) _) _).step h8))
  clear h8
  go_wp2_with fail
  go_ret
  exact ⟨rfl, HS.out⟩
set_option maxRecDepth 100000 in
set_option maxHeartbeats 4000000 in
theorem big_2 (w : World) (K : Int) (k : ByteArray) (A : Option Addr) (n q : Nat) (L : List A2) (u m v e y : ByteArray) (hx : AttsS w (.slice A n q) L) (l1 : 100 < y.size) (c0 : RdR 12 L (fun x => #[rv K k u m v e x]) (.bool true)) (hT : Tab2 w) :
    Calls Tryz.prog 4 #[.agg #[.int .i64 K, .string k, .slice A n q, .string u, .string m, .string v, .string e], .string y] w fun x w' => x = .returned (.bool true) ∧ Since w w' := by
  have t1 : decide ((100 : Int) < (y.size : Int)) = true := decide_eq_true (by omega)
  have HX9 := Lib.hid hx
  have hp := Lib.hid (hb_new w Tab2 hT #[.int .i64 K, .string k, .slice A n q, .string u, .string m, .string v, .string e] 34)
  have HX := Lib.hid (hx.since hp.out.since)
  have HS := Lib.hid hp.out.since
  obtain ⟨_, m0, m1, m2, m3, m4, m5, m6⟩ := hb7 hp
  have c9 := awake_k
  clear hx hT
  go_enter Tryz.func4, Tryz.ntmps4
  go_wp2_with fail
  clear m0 m1 m2 m3 m4 m5 m6
  refine (c0.calls0 hp.out.tabs HX.out) ?_
  intro w1 h1
  replace hp := Lib.hid (hp.out.step (by first | exact h1 | exact (Since.alloc (Since.refl _) _).step h1 | exact (Since.alloc (Since.alloc (Since.refl _) _) _).step h1 | exact (Since.drew (Since.refl _)).step h1 | exact (Since.alloc (Since.alloc (Since.alloc (Since.refl _) _) _) _).step h1))
  replace HX := Lib.hid (HX.out.since (by first | exact h1 | exact (Since.alloc (Since.refl _) _).step h1 | exact (Since.alloc (Since.alloc (Since.refl _) _) _).step h1 | exact (Since.drew (Since.refl _)).step h1 | exact (Since.alloc (Since.alloc (Since.alloc (Since.refl _) _) _) _).step h1))
  replace HS := Lib.hid (HS.out.step (by first | exact h1 | exact (Since.alloc (Since.refl _) _).step h1 | exact (Since.alloc (Since.alloc (Since.refl _) _) _).step h1 | exact (Since.drew (Since.refl _)).step h1 | exact (Since.alloc (Since.alloc (Since.alloc (Since.refl _) _) _) _).step h1))
  clear h1
  go_wp2_with fail
  refine (c9.calls0 hp.out.tabs) ?_
  intro w8 h8
  replace HS := Lib.hid (HS.out.step (by first | exact h8 | exact (Since.alloc (Since.refl _) _).step h8 | exact (Since.alloc (Since.alloc (Since.refl _) _) _).step h8 | exact (Since.drew (Since.refl _)).step h8 | exact (Since.alloc (Since.alloc (Since.alloc (Since.refl _) _) _) _).step h8))
  clear h8
  go_wp2_with fail
  go_ret
  exact ⟨rfl, HS.out⟩
theorem ofV_pair (K : Int) (k : ByteArray) (L : List A2) : ofV K k L = .tuple #[.string (if recE K k L = 0 then ofS K k else ⟨#[]⟩), .int .i64 (recE K k L)] := by
  unfold ofV
  by_cases h : recE K k L = 0
  · rw [if_pos h, if_pos h, h]
  · rw [if_neg h, if_neg h]
set_option maxRecDepth 100000 in
theorem walk (w : World) (K : Int) (k : ByteArray) (A : Option Addr) (n q : Nat) (L : List A2) (u m v e y : ByteArray) (_f0 : (Lit.int .i64 K).wf = true) (_f1 : k.size ≤ maxLen) (hx : AttsS w (.slice A n q) L) (_f2 : n = L.length) (_f3 : ∀ p ∈ L, (Lit.int .i64 p.1).wf = true ∧ p.2.size ≤ maxLen)
    (_f4 : u.size ≤ maxLen) (_f5 : m.size ≤ maxLen) (_f6 : v.size ≤ maxLen) (_f7 : e.size ≤ maxLen) (_f8 : y.size ≤ maxLen) (hT : Tab2 w) :
    Calls Tryz.prog 4 #[.agg #[.int .i64 K, .string k, .slice A n q, .string u, .string m, .string v, .string e], .string y] w fun x w' => x = .returned (.bool true) ∧ Below w.heap.size w w' := by
  have c0 := plain_rec K k u m v e L
  cases hb : plainB k u m v e L with
  | false => rw [hb] at c0; exact big_1 w K k A n q L u m v e y hx c0 hT
  | true =>
    rw [hb] at c0
    by_cases l1 : 100 < y.size
    · exact big_2 w K k A n q L u m v e y hx l1 c0 hT
    obtain ⟨h1, h2, h3⟩ := plain_small hb
    have hk : k.size ≤ 100000 := by omega
    have c1 := of_rec K k u m v e L hk
    have c2 := RefKcv.rof_rec K k u m v e L hk
    rw [ofV_pair] at c1 c2
    exact core w K k A n q L u m v e y hx (by omega) c0 _ _ _ _ _ _ c1 c2 (le_rec K k u m v e L hk) (RefKcv.rle_rec K k u m v e L hk) (ch_rec K k u m v e y L hk (by omega)) (RefKcv.rch_rec K k u m v e y L hk) hT

set_option maxRecDepth 100000 in
theorem own : ownKnob Tryz.prog.godebug = none := by kernel_rfl
set_option maxRecDepth 100000 in
theorem laidOut : laidOutB Tryz.prog = true := by kernel_rfl

def laidL : List (String × DataW Unit) := [("unicode/utf8.acceptRanges", Rows.laid_unicode_utf8_acceptRanges), ("claviger/curve.lines", Rows.laid_claviger_curve_lines), ("claviger/kind.lines", Rows.laid_claviger_kind_lines), ("unicode/utf8.first", Rows.laid_unicode_utf8_first)]
set_option maxRecDepth 100000 in
theorem lifted (os : Os) (started : os.Started) (H : Type) (enc : TypeId × Value → H) :
    ReturnsInHanded {} Tryz.checked os 4 .any (fun w args => (Rows.kcvTellsSpec.pre enc Tryz.prog Tryz.f4 [] false w args ∧ laidMetH Tryz.prog laidL w) ∧ sizedMet enc Tryz.prog Tryz.f4 (OpenSpec.ofChange Rows.kcvTellsSpec) false w args)
      (Rows.kcvTellsSpec.post enc Tryz.prog Tryz.f4 false true false false) := by
  refine returnsInHanded_of_change_and (C := Tryz.checked) (X := fun w _ => laidMetH Tryz.prog laidL w) (fun _ _ _ hh h => h.of_heap hh) own started (by kernel_rfl) Tryz.func4
    (ChangeSpec.witness_shaped (enc := enc) (C := Tryz.checked) (os := os) (X := fun w _ => laidMetH Tryz.prog laidL w) false (World.laidAll Tryz.prog os laidL) #[.agg #[.int .i64 0, .string ⟨#[]⟩, .slice none 0 0, .string ⟨#[]⟩, .string ⟨#[]⟩, .string ⟨#[]⟩, .string ⟨#[]⟩], .string ⟨#[]⟩] 8 (World.laidAll_os _ _ _) (World.shaped_of_ZipB (by kernel_rfl) (by kernel_rfl)) (by kernel_rfl) (by kernel_rfl) (by kernel_rfl) (by rw [MakeChecks.laidMetH_plain _ _ _ (by kernel_rfl)]; exact laidMet_laidAll _ (by kernel_rfl) (by kernel_rfl))) ?_
  intro W base args ds gs before hval0 hW _ _ hL _
  have hval : ∀ (j : Nat) t v, Tryz.f4.params[j]? = some t → args[j]? = some v → Value.okWide Tryz.prog W .any base t v := hval0
  have hW' := hW
  obtain ⟨p, q, hA0, hV, rfl, hfz, hnd⟩ := hW
  have hA : DataW.TrodAll enc Tryz.prog W 0 (fun _ => true) true Tryz.f4.params.toList args.toList ds p := hA0
  rw [Tryz.params4] at hA hval
  obtain ⟨v0, vs0, d0, ds0, p0, q0, hargs, rfl, rfl, h0, r0⟩ := trodAll_cons hA
  obtain ⟨v1, vs1, d1, ds1, p1, q1, rfl, rfl, rfl, h1, r1⟩ := trodAll_cons r0
  obtain ⟨rfl, rfl, rfl⟩ := trodAll_nil r1
  obtain rfl : args = #[v0, v1] := by cases args; simp_all
  obtain ⟨rfl, rfl⟩ := trodVars_none hV
  have h0k := h0
  have hlt0 : ∀ x ∈ p0, x.block < W.heap.size := fun x hx => by simpa using hW'.lt x (by simp [hx])
  obtain ⟨a0_K, a0_k, a0_A, a0_n, a0_q, a0_L, a0_u, a0_m, a0_v, a0_e, rfl, f0_0, f0_1, f0_2, f0_3, f0_4, f0_5, f0_6, f0_7, f0_8⟩ := Rec.record_arg (hval 0 34 v0 rfl rfl) h0 hlt0
  obtain ⟨a1, rfl, rfl, rfl, w1⟩ := Go.ChangeMaps.open_string Tryz.underlying9 (hval 1 9 v1 rfl rfl) h1
  clear hA0 hval0
  simp only [List.append_nil] at hW'
  refine (walk W a0_K a0_k a0_A a0_n a0_q a0_L a0_u a0_m a0_v a0_e a1 f0_0 f0_1 f0_2 f0_3 f0_4 f0_5 f0_6 f0_7 f0_8 w1 (Kind.tabs4_of hL)).mono fun e W' ⟨he, hg⟩ => ?_
  subst he
  exact ⟨_, rfl, _, _, _, _, _, [], hW', (trodAll_cons_mk (shut_bool Tryz.underlying4 _) trodAll_mk0), (trodAll_cons_mk (Below.trod laidOut (by kernel_rfl) (of_decide_eq_true (by kernel_rfl)) h0k hg hlt0) (trodAll_cons_mk (Go.ChangeMaps.shut_string Tryz.underlying9 w1) trodAll_mk0)), rfl, hg.frame _, fun h => by cases h⟩

set_option maxRecDepth 100000 in
theorem over : Rows.kcvTellsRow.holds Tryz.pinned (OpenSpec.ofChange Rows.kcvTellsSpec) :=
  OpenClaim.holds_of_wide 4 Tryz.f4 rfl rfl rfl rfl rfl rfl rfl ⟨rfl, rfl, rfl, rfl, rfl⟩ rfl rfl rfl rfl rfl (by kernel_rfl) Tryz.func4 (by kernel_rfl)
    (of_decide_eq_true (by kernel_rfl)) (by unfold Func.isWrapper; first | (rw [if_pos (by decide +kernel)]; kernel_rfl) | (rw [if_neg (by decide +kernel)]; exact ⟨rfl, rfl⟩))
    (fun os started H enc _ => lifted os started H enc)

set_option maxRecDepth 100000 in
theorem proved : Rows.KcvTellsCardSaid :=
  Claim7.holds_tied_plain_at .later [] [.data, .data, .data, .pinned] true Rows.kcvTellsCard.stood.harness false
    over (fun _ h => by cases h) (by kernel_rfl) (fun _ h => by cases h) kcvTells_row_tie rfl ⟨rfl, rfl⟩ (by kernel_rfl) rfl
    (fun f fn hf hfn => by
      obtain rfl : f = 4 := Option.some.inj ((show Tryz.prog.funcNamed "claviger/clavigerlaw45.KcvTells" = some 4 by kernel_rfl).symm.trans hf) |>.symm
      obtain rfl : fn = Tryz.f4 := (Option.some.inj (Tryz.func4.symm.trans hfn)).symm
      exact ⟨by kernel_rfl, fun j t ht => by
        rw [Tryz.params4] at ht
        have hm : t ∈ [34, 9] := by simpa using Array.mem_of_getElem? ht
        have hall : ([34, 9].all fun u => !Tryz.prog.wantsStandIn u) = true := by kernel_rfl
        exact (show Tryz.prog.wantsStandIn t = false by simpa using List.all_eq_true.1 hall t hm)⟩)
    (by kernel_rfl)

end Go.Proofs.YtgfdomdbjiflmaaGreatDoor.kcvTells
