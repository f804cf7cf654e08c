/- Joined texts. -/
-- PACK: YtddlaafpianjbaaDoorUsageX
import Derived.Test.YtddlaafpianjbaaDoorUs26
import Derived.Test.YtddlaafpianjbaaDoorUs3

/- What the laws of usage stand on: a record's box with the table. -/
namespace Go.Proofs.YtddlaafpianjbaaDoor
open Go.RowKit
namespace Us
open Att
/-- clavigerplain.Record -/
def plainB (k u m v e : ByteArray) (L : List A2) : Bool := decide (k.size ≤ 100) && fewB L 40 && Plain.headB u m v e
set_option maxRecDepth 100000 in
set_option maxHeartbeats 2000000 in
theorem plain_core (K : Int) (k u m v e : ByteArray) (L : List A2) (q1 q2 q3 Q : Bool) (hQ : Q = (q1 && q2 && q3)) (t1 : decide ((k.size : Int) ≤ 100) = q1) (c1 : RdA 19 L (fun x => #[x, .int .i64 40]) (.bool q2))
    (c2 : Mak 20 #[.agg #[.string u, .string m, .string v, .string e]] (.bool q3)) : RdA 5 L (fun x => #[rv K k u m v e x]) (.bool Q) := by
  subst hQ
  cases q1
  · intro w x hx
    obtain ⟨A, q, rfl, hq1, hq2⟩ := hx.slice
    have hp := Lib.hid (ux_new (K := K) (k := k) (u := u) (m := m) (v := v) (e := e) hx)
    obtain ⟨_, m0, m1, m2, m3, m4, m5, m6⟩ := ux7 hp
    clear hx
    go_enter Tryd.func5, Tryd.ntmps5
    go_wp2_with fail
    clear m0 m1 m2 m3 m4 m5 m6
    go_ret
    exact ⟨rfl, hp.out.hb.since⟩
  · cases q2
    · intro w x hx
      obtain ⟨A, q, rfl, hq1, hq2⟩ := hx.slice
      have hp := Lib.hid (ux_new (K := K) (k := k) (u := u) (m := m) (v := v) (e := e) hx)
      obtain ⟨_, m0, m1, m2, m3, m4, m5, m6⟩ := ux7 hp
      clear hx
      go_enter Tryd.func5, Tryd.ntmps5
      go_wp2_with fail
      clear m0 m1 m2 m3 m4 m5 m6
      refine (c1.calls0 hp.out.atts) ?_
      intro w1 h1
      replace hp := uxstep (by first | exact h1 | exact (Since.alloc (Since.refl _) _).step h1) hp
      clear h1
      obtain ⟨_, m0, m1, m2, m3, m4, m5, m6⟩ := ux7 hp
      go_wp2_with fail
      clear m0 m1 m2 m3 m4 m5 m6
      go_ret
      exact ⟨rfl, hp.out.hb.since⟩
    · intro w x hx
      obtain ⟨A, q, rfl, hq1, hq2⟩ := hx.slice
      have hp := Lib.hid (ux_new (K := K) (k := k) (u := u) (m := m) (v := v) (e := e) hx)
      obtain ⟨_, m0, m1, m2, m3, m4, m5, m6⟩ := ux7 hp
      clear hx
      go_enter Tryd.func5, Tryd.ntmps5
      go_wp2_with fail
      clear m0 m1 m2 m3 m4 m5 m6
      refine (c1.calls0 hp.out.atts) ?_
      intro w1 h1
      replace hp := uxstep (by first | exact h1 | exact (Since.alloc (Since.refl _) _).step h1) hp
      clear h1
      obtain ⟨_, m0, m1, m2, m3, m4, m5, m6⟩ := ux7 hp
      go_wp2_with fail
      clear m0 m1 m2 m3 m4 m5 m6
      refine (c2.calls0) ?_
      intro w2 h2
      replace hp := uxstep (by first | exact h2 | exact (Since.alloc (Since.refl _) _).step h2) hp
      clear h2
      go_wp2_with fail
      go_ret
      exact ⟨rfl, hp.out.hb.since⟩
theorem plain_rd (K : Int) (k u m v e : ByteArray) (L : List A2) : RdA 5 L (fun x => #[rv K k u m v e x]) (.bool (plainB k u m v e L)) := by
  have t1 : decide ((k.size : Int) ≤ 100) = decide (k.size ≤ 100) := by norm_cast
  exact plain_core K k u m v e L _ _ _ _ rfl t1 (few_rd L 40 (by decide) _ rfl) (Plain.head_mak u m v e _ rfl)
/-- a box with a record, and the table -/
structure TX (w : World) (g : Nat) (K : Int) (k u m v e : ByteArray) (x : Value) (L : List A2) (W : World) : Prop where
  hb : HB w Table.Tabs g #[.int .i64 K, .string k, x, .string u, .string m, .string v, .string e] W
  atts : AttsS W x L
section
variable {w : World} {g : Nat} {K : Int} {k u m v e : ByteArray} {x : Value} {L : List A2} {W W' : World}
theorem txstep (hs : Since W W') (h : Hid (TX w g K k u m v e x L W)) : Hid (TX w g K k u m v e x L W') := Lib.hid ⟨h.out.hb.step hs, h.out.atts.since hs⟩
theorem txdrew (h : Hid (TX w g K k u m v e x L W)) : Hid (TX w g K k u m v e x L W.drew) := txstep (Below.drew (Below.refl _ _)) h
theorem tx7 (h : Hid (TX w g K k u m v e x L W)) : Hid (TX w g K k u m v e x L W) ∧ W.cell? ⟨g, 0, none⟩ = some (.int .i64 K) ∧ W.cell? ⟨g, 1, none⟩ = some (.string k) ∧ W.cell? ⟨g, 2, none⟩ = some x ∧ W.cell? ⟨g, 3, none⟩ = some (.string u) ∧ W.cell? ⟨g, 4, none⟩ = some (.string m) ∧ W.cell? ⟨g, 5, none⟩ = some (.string v) ∧ W.cell? ⟨g, 6, none⟩ = some (.string e) :=
  ⟨h, h.out.hb.cell 0 _ rfl, h.out.hb.cell 1 _ rfl, h.out.hb.cell 2 _ rfl, h.out.hb.cell 3 _ rfl, h.out.hb.cell 4 _ rfl, h.out.hb.cell 5 _ rfl, h.out.hb.cell 6 _ rfl⟩
theorem tx_new (hT : Table.Tabs w) (hx : AttsS w x L) : TX w w.heap.size K k u m v e x L (w.alloc (.cells #[.int .i64 K, .string k, x, .string u, .string m, .string v, .string e] 26)) :=
  ⟨hb_new w Table.Tabs hT _ _, hx.since ((Since.refl w).alloc _)⟩
end
set_option maxRecDepth 100000 in
theorem eq_t {w : World} {x y : Value} {l : List ByteArray} (hx : StrsS w x l) (hy : StrsS w y l) : Calls Tryd.prog 7 #[x, y] w fun e w' => e = .returned (.bool true) ∧ Since w w' := by
  have h := EqS.equals w x y l l hx hy
  rw [decide_eq_true rfl] at h
  exact h
end Us
end Go.Proofs.YtddlaafpianjbaaDoor
