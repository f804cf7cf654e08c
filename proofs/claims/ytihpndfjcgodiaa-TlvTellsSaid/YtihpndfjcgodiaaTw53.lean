/- Joined texts. -/
-- PACK: YtihpndfjcgodiaaRefTlv YtihpndfjcgodiaaRefTlvF
import Derived.Test.YtihpndfjcgodiaaTw52
import Derived.Deep.RegionHeld3

/- Package clavigerref19: element: what is refused. -/
namespace Go.Proofs.Ytihpndfjcgodiaa
open Go.RowKit
namespace Tlv
open Span Flt Rw
theorem rows_setRow {w : World} {base : Nat} {t : TypeId} {g : Nat} {C : List Value} {rs : List Row} (h : Rw.Rows w base (lone t g C :: rs)) (D : Array Value) : Rw.Rows (w.setRow g D) base rs := by
  have ha := List.pairwise_cons.1 h.apart
  refine ⟨fun r hr => ?_, ha.2⟩
  have h1 := h.own r (by simp [hr])
  refine ⟨h1.1, ?_⟩
  rcases h1.2 with h2 | ⟨g', cap, cur, hv, hb, hg, rest⟩
  · exact .inl h2
  · refine .inr ⟨g', cap, cur, hv, hb, ?_, rest⟩
    have hne : g' ≠ g := fun e => ha.1 r hr g rfl (by rw [hv, e]; rfl)
    rw [setRow_other w g g' _ hne]
    exact hg
/-- an answer with a fault -/
def ElErr (w0 : World) (X : List Row) (c p : Int) (x : Ending) (W' : World) : Prop := x = .returned (.tuple #[.int .i64 0, .agg (F2 c p)]) ∧ Rw.Rows W' w0.heap.size X ∧ Since w0 W'
def H4l (c t : Int) (b : Bool) (n : Int) : List Value := [.int .i64 c, .int .i64 t, .bool b, .int .i64 n]
section
variable (w0 : World) (g : Nat) (s : ByteArray) (tv fv ov : Value) (ns : List (Nd × Value)) (fr to : List Nat) (X : List Row) (W : World) (p e deep c t n k x : Int) (b : Bool) (D : ByteArray)
set_option maxRecDepth 100000 in
set_option maxHeartbeats 4000000 in
theorem el_bad (hRS : RS w0 g s tv fv ov ns fr to X W) (i1 : 0 ≤ p) (i2 : p ≤ e) (i3 : e ≤ (s.size : Int)) (hD : s.extract p.toNat e.toNat = D) (hx : (x != 0) = true)
    (c1 : Mak 45 #[.string D] (.tuple #[.agg #[.int .i64 c, .int .i64 t, .bool b, .int .i64 n], .int .i64 k, .int .i64 x])) :
    Calls Try.prog 60 #[.pointer (some ⟨g, 0, none⟩), .int .i64 p, .int .i64 e, .int .i64 deep] W (ElErr w0 X x p) := by
  subst hD
  have HRS := Lib.hid (hRS.push [.int .i64 0, .int .i64 0] 27)
  obtain ⟨z0, -, -, -, -⟩ := HRS.out.cells
  have hwb := Lib.hid (Below.size hRS.since)
  clear hRS
  go_enter Try.func60, Try.ntmps60
  go_wp2_with fail
  refine c1.calls0 ?_
  intro w1 h1
  have HR1 := Lib.hid ((HRS.out.step h1).push [.int .i64 c, .int .i64 t, .bool b, .int .i64 n] 76)
  have hh := lone_heap (HR1.out.others.own (lone 76 w1.heap.size [.int .i64 c, .int .i64 t, .bool b, .int .i64 n]) (by simp))
  have hp := Lib.hid (hb_new w1 KT trivial #[.int .i64 c, .int .i64 t, .bool b, .int .i64 n] 76)
  obtain ⟨_, m0, m1, m2, m3⟩ := hb4 hp
  clear h1 hh z0
  go_wp2_with fail
  refine (faulty_mak x p).calls0 ?_
  intro w2 h2
  have HR2 := Lib.hid ((HR1.out.step h2).others)
  have hf := lone_heap (HR2.out.own (lone 27 W.heap.size [.int .i64 0, .int .i64 0]) (by simp))
  have HS2 := Lib.hid ((HR1.out.step h2).since)
  clear h2
  go_wp2_with (refine wpList_store_row rfl 27 _ _ rfl W.heap.size (F2 x p) (by rfl) (by rfl) _ _ hf (f2_info x p) rfl (f2_one x p) ?_)
  exact bodyPost_ret (v := .tuple #[.int .i64 0, .agg (F2 x p)]) (results_t_cell Try.results60 _ _ _ _ _ _ _ _ rfl rfl (setRow_heap _ _ _ _ _ _ hf) Try.underlying27 rfl (f2_info x p)) rfl ⟨rfl, rows_setRow (rows_drop HR2.out) _, below_setRow HS2.out hwb.out _⟩
set_option maxRecDepth 100000 in
set_option maxHeartbeats 4000000 in
theorem el_far (hRS : RS w0 g s tv fv ov ns fr to X W) (i1 : 0 ≤ p) (i2 : p ≤ e) (i3 : e ≤ (s.size : Int)) (hs : s.size ≤ 65535) (hD : s.extract p.toNat e.toNat = D) (i4 : 0 ≤ k) (i5 : k ≤ 100) (i6 : 0 ≤ n) (i7 : n ≤ 65535) (hx : decide (e < p + k + n) = true)
    (c1 : Mak 45 #[.string D] (.tuple #[.agg #[.int .i64 c, .int .i64 t, .bool b, .int .i64 n], .int .i64 k, .int .i64 0])) :
    Calls Try.prog 60 #[.pointer (some ⟨g, 0, none⟩), .int .i64 p, .int .i64 e, .int .i64 deep] W (ElErr w0 X 5 p) := by
  have hw1 : IntKind.i64.wrap (p + k) = p + k := IntWalk.i64_in _ (by omega)
  have hw2 : IntKind.i64.wrap (p + k + n) = p + k + n := IntWalk.i64_in _ (by omega)
  subst hD
  have HRS := Lib.hid (hRS.push [.int .i64 0, .int .i64 0] 27)
  obtain ⟨z0, -, -, -, -⟩ := HRS.out.cells
  have hwb := Lib.hid (Below.size hRS.since)
  clear hRS
  go_enter Try.func60, Try.ntmps60
  go_wp2_with fail
  refine c1.calls0 ?_
  intro w1 h1
  have HR1 := Lib.hid ((HRS.out.step h1).push [.int .i64 c, .int .i64 t, .bool b, .int .i64 n] 76)
  have hh := lone_heap (HR1.out.others.own (lone 76 w1.heap.size [.int .i64 c, .int .i64 t, .bool b, .int .i64 n]) (by simp))
  have hp := Lib.hid (hb_new w1 KT trivial #[.int .i64 c, .int .i64 t, .bool b, .int .i64 n] 76)
  obtain ⟨_, m0, m1, m2, m3⟩ := hb4 hp
  clear h1 hh z0
  go_wp2_with fail
  refine (faulty_mak 5 p).calls0 ?_
  intro w2 h2
  have HR2 := Lib.hid ((HR1.out.step h2).others)
  have hf := lone_heap (HR2.out.own (lone 27 W.heap.size [.int .i64 0, .int .i64 0]) (by simp))
  have HS2 := Lib.hid ((HR1.out.step h2).since)
  clear h2
  go_wp2_with (refine wpList_store_row rfl 27 _ _ rfl W.heap.size (F2 5 p) (by rfl) (by rfl) _ _ hf (f2_info 5 p) rfl (f2_one 5 p) ?_)
  exact bodyPost_ret (v := .tuple #[.int .i64 0, .agg (F2 5 p)]) (results_t_cell Try.results60 _ _ _ _ _ _ _ _ rfl rfl (setRow_heap _ _ _ _ _ _ hf) Try.underlying27 rfl (f2_info 5 p)) rfl ⟨rfl, rows_setRow (rows_drop HR2.out) _, below_setRow HS2.out hwb.out _⟩
set_option maxRecDepth 100000 in
set_option maxHeartbeats 4000000 in
theorem el_deep (hRS : RS w0 g s tv fv ov ns fr to X W) (i1 : 0 ≤ p) (i2 : p ≤ e) (i3 : e ≤ (s.size : Int)) (hs : s.size ≤ 65535) (hD : s.extract p.toNat e.toNat = D) (i4 : 0 ≤ k) (i5 : k ≤ 100) (i6 : 0 ≤ n) (i7 : n ≤ 65535) (hf : decide (e < p + k + n) = false) (hx : decide (16 < deep) = true)
    (c1 : Mak 45 #[.string D] (.tuple #[.agg #[.int .i64 c, .int .i64 t, .bool b, .int .i64 n], .int .i64 k, .int .i64 0])) :
    Calls Try.prog 60 #[.pointer (some ⟨g, 0, none⟩), .int .i64 p, .int .i64 e, .int .i64 deep] W (ElErr w0 X 6 p) := by
  have hw1 : IntKind.i64.wrap (p + k) = p + k := IntWalk.i64_in _ (by omega)
  have hw2 : IntKind.i64.wrap (p + k + n) = p + k + n := IntWalk.i64_in _ (by omega)
  subst hD
  have HRS := Lib.hid (hRS.push [.int .i64 0, .int .i64 0] 27)
  obtain ⟨z0, -, -, -, -⟩ := HRS.out.cells
  have hwb := Lib.hid (Below.size hRS.since)
  clear hRS
  go_enter Try.func60, Try.ntmps60
  go_wp2_with fail
  refine c1.calls0 ?_
  intro w1 h1
  have HR1 := Lib.hid ((HRS.out.step h1).push [.int .i64 c, .int .i64 t, .bool b, .int .i64 n] 76)
  have hh := lone_heap (HR1.out.others.own (lone 76 w1.heap.size [.int .i64 c, .int .i64 t, .bool b, .int .i64 n]) (by simp))
  have hp := Lib.hid (hb_new w1 KT trivial #[.int .i64 c, .int .i64 t, .bool b, .int .i64 n] 76)
  obtain ⟨_, m0, m1, m2, m3⟩ := hb4 hp
  clear h1 hh z0
  go_wp2_with fail
  refine (faulty_mak 6 p).calls0 ?_
  intro w2 h2
  have HR2 := Lib.hid ((HR1.out.step h2).others)
  have hf := lone_heap (HR2.out.own (lone 27 W.heap.size [.int .i64 0, .int .i64 0]) (by simp))
  have HS2 := Lib.hid ((HR1.out.step h2).since)
  clear h2
  go_wp2_with (refine wpList_store_row rfl 27 _ _ rfl W.heap.size (F2 6 p) (by rfl) (by rfl) _ _ hf (f2_info 6 p) rfl (f2_one 6 p) ?_)
  exact bodyPost_ret (v := .tuple #[.int .i64 0, .agg (F2 6 p)]) (results_t_cell Try.results60 _ _ _ _ _ _ _ _ rfl rfl (setRow_heap _ _ _ _ _ _ hf) Try.underlying27 rfl (f2_info 6 p)) rfl ⟨rfl, rows_setRow (rows_drop HR2.out) _, below_setRow HS2.out hwb.out _⟩
set_option maxRecDepth 100000 in
set_option maxHeartbeats 4000000 in
theorem el_many (tA : Option Addr) (tc : Nat) (htv : tv = .slice tA ns.length tc) (hRS : RS w0 g s tv fv ov ns fr to X W) (i1 : 0 ≤ p) (i2 : p ≤ e) (i3 : e ≤ (s.size : Int)) (hs : s.size ≤ 65535) (hD : s.extract p.toNat e.toNat = D) (i4 : 0 ≤ k) (i5 : k ≤ 100) (i6 : 0 ≤ n) (i7 : n ≤ 65535) (hf : decide (e < p + k + n) = false) (hd : decide (16 < deep) = false)
    (hx : decide ((1000 : Int) ≤ (ns.length : Int)) = true) (c1 : Mak 45 #[.string D] (.tuple #[.agg #[.int .i64 c, .int .i64 t, .bool b, .int .i64 n], .int .i64 k, .int .i64 0])) :
    Calls Try.prog 60 #[.pointer (some ⟨g, 0, none⟩), .int .i64 p, .int .i64 e, .int .i64 deep] W (ElErr w0 X 4 p) := by
  have hw1 : IntKind.i64.wrap (p + k) = p + k := IntWalk.i64_in _ (by omega)
  have hw2 : IntKind.i64.wrap (p + k + n) = p + k + n := IntWalk.i64_in _ (by omega)
  subst hD htv
  have HRS := Lib.hid (hRS.push [.int .i64 0, .int .i64 0] 27)
  obtain ⟨z0, -, -, -, -⟩ := HRS.out.cells
  have hwb := Lib.hid (Below.size hRS.since)
  clear hRS
  go_enter Try.func60, Try.ntmps60
  go_wp2_with fail
  refine c1.calls0 ?_
  intro w1 h1
  have HR1 := Lib.hid ((HRS.out.step h1).push [.int .i64 c, .int .i64 t, .bool b, .int .i64 n] 76)
  have hh := lone_heap (HR1.out.others.own (lone 76 w1.heap.size [.int .i64 c, .int .i64 t, .bool b, .int .i64 n]) (by simp))
  have hp := Lib.hid (hb_new w1 KT trivial #[.int .i64 c, .int .i64 t, .bool b, .int .i64 n] 76)
  obtain ⟨_, m0, m1, m2, m3⟩ := hb4 hp
  clear h1 hh z0
  obtain ⟨z0, z1, -, -, -⟩ := HR1.out.cells
  have hx2 : decide (1000 ≤ ns.length) = true := by have := of_decide_eq_true hx; exact decide_eq_true (by omega)
  go_wp2_with fail
  refine (faulty_mak 4 p).calls0 ?_
  intro w2 h2
  have HR2 := Lib.hid ((HR1.out.step h2).others)
  have hf := lone_heap (HR2.out.own (lone 27 W.heap.size [.int .i64 0, .int .i64 0]) (by simp))
  have HS2 := Lib.hid ((HR1.out.step h2).since)
  clear h2
  go_wp2_with (refine wpList_store_row rfl 27 _ _ rfl W.heap.size (F2 4 p) (by rfl) (by rfl) _ _ hf (f2_info 4 p) rfl (f2_one 4 p) ?_)
  exact bodyPost_ret (v := .tuple #[.int .i64 0, .agg (F2 4 p)]) (results_t_cell Try.results60 _ _ _ _ _ _ _ _ rfl rfl (setRow_heap _ _ _ _ _ _ hf) Try.underlying27 rfl (f2_info 4 p)) rfl ⟨rfl, rows_setRow (rows_drop HR2.out) _, below_setRow HS2.out hwb.out _⟩
set_option maxRecDepth 100000 in
set_option maxHeartbeats 4000000 in
theorem el_fc (tA : Option Addr) (tc : Nat) (htv : tv = .slice tA ns.length tc) (hRS : RS w0 g s tv fv ov ns fr to X W) (i1 : 0 ≤ p) (i2 : p ≤ e) (i3 : e ≤ (s.size : Int)) (hs : s.size ≤ 65535) (hD : s.extract p.toNat e.toNat = D) (i4 : 0 ≤ k) (i5 : k ≤ 100) (i6 : 0 ≤ n) (i7 : n ≤ 65535) (hf : decide (e < p + k + n) = false) (hd : decide (16 < deep) = false)
    (hx : decide ((1000 : Int) ≤ (ns.length : Int)) = false) (t1 : (t != 16) = true) (t2 : (t != 17) = true) (c1 : Mak 45 #[.string D] (.tuple #[.agg #[.int .i64 0, .int .i64 t, .bool true, .int .i64 n], .int .i64 k, .int .i64 0])) :
    Calls Try.prog 60 #[.pointer (some ⟨g, 0, none⟩), .int .i64 p, .int .i64 e, .int .i64 deep] W (ElErr w0 X 5 p) := by
  have hw1 : IntKind.i64.wrap (p + k) = p + k := IntWalk.i64_in _ (by omega)
  have hw2 : IntKind.i64.wrap (p + k + n) = p + k + n := IntWalk.i64_in _ (by omega)
  subst hD htv
  have HRS := Lib.hid (hRS.push [.int .i64 0, .int .i64 0] 27)
  obtain ⟨z0, -, -, -, -⟩ := HRS.out.cells
  have hwb := Lib.hid (Below.size hRS.since)
  clear hRS
  go_enter Try.func60, Try.ntmps60
  go_wp2_with fail
  refine c1.calls0 ?_
  intro w1 h1
  have HR1 := Lib.hid ((HRS.out.step h1).push [.int .i64 0, .int .i64 t, .bool true, .int .i64 n] 76)
  have hh := lone_heap (HR1.out.others.own (lone 76 w1.heap.size [.int .i64 0, .int .i64 t, .bool true, .int .i64 n]) (by simp))
  have hp := Lib.hid (hb_new w1 KT trivial #[.int .i64 0, .int .i64 t, .bool true, .int .i64 n] 76)
  obtain ⟨_, m0, m1, m2, m3⟩ := hb4 hp
  clear h1 hh z0
  obtain ⟨z0, z1, -, -, -⟩ := HR1.out.cells
  have hx2 : decide (1000 ≤ ns.length) = false := by have := of_decide_eq_false hx; exact decide_eq_false (by omega)
  go_wp2_with fail
  refine (faulty_mak 5 p).calls0 ?_
  intro w2 h2
  have HR2 := Lib.hid ((HR1.out.step h2).others)
  have hf := lone_heap (HR2.out.own (lone 27 W.heap.size [.int .i64 0, .int .i64 0]) (by simp))
  have HS2 := Lib.hid ((HR1.out.step h2).since)
  clear h2
  go_wp2_with (refine wpList_store_row rfl 27 _ _ rfl W.heap.size (F2 5 p) (by rfl) (by rfl) _ _ hf (f2_info 5 p) rfl (f2_one 5 p) ?_)
  exact bodyPost_ret (v := .tuple #[.int .i64 0, .agg (F2 5 p)]) (results_t_cell Try.results60 _ _ _ _ _ _ _ _ rfl rfl (setRow_heap _ _ _ _ _ _ hf) Try.underlying27 rfl (f2_info 5 p)) rfl ⟨rfl, rows_setRow (rows_drop HR2.out) _, below_setRow HS2.out hwb.out _⟩
end
end Tlv
end Go.Proofs.Ytihpndfjcgodiaa

/- Package clavigerref19: element: contents that are not right. -/
namespace Go.Proofs.Ytihpndfjcgodiaa
open Go.RowKit
namespace Tlv
open Span Flt Rw
section
variable (w0 : World) (g : Nat) (s : ByteArray) (tv fv ov : Value) (ns : List (Nd × Value)) (fr to : List Nat) (X : List Row) (W : World) (p e deep c t n k x : Int) (b : Bool) (D : ByteArray)
set_option maxRecDepth 100000 in
set_option maxHeartbeats 1000000 in
theorem el_fp (tA : Option Addr) (tc : Nat) (htv : tv = .slice tA ns.length tc) (hRS : RS w0 g s tv fv ov ns fr to X W) (i1 : 0 ≤ p) (i2 : p ≤ e) (i3 : e ≤ (s.size : Int)) (hs : s.size ≤ 65535) (hD : s.extract p.toNat e.toNat = D) (i4 : 0 ≤ k) (i5 : k ≤ 100) (i6 : 0 ≤ n) (i7 : n ≤ 65535) (hf : decide (e < p + k + n) = false) (hd : decide (16 < deep) = false)
    (hx : decide ((1000 : Int) ≤ (ns.length : Int)) = false) (Q : ByteArray) (hQ : s.extract (p + k).toNat (p + k + n).toNat = Q) (c1 : Mak 45 #[.string D] (.tuple #[.agg #[.int .i64 0, .int .i64 t, .bool false, .int .i64 n], .int .i64 k, .int .i64 0]))
    (c2 : Mak 72 #[.int .i64 t, .string Q] (.bool false)) :
    Calls Try.prog 60 #[.pointer (some ⟨g, 0, none⟩), .int .i64 p, .int .i64 e, .int .i64 deep] W (ElErr w0 X 5 p) := by
  have hf' := of_decide_eq_false hf
  have hw1 : IntKind.i64.wrap (p + k) = p + k := IntWalk.i64_in _ (by omega)
  have hw2 : IntKind.i64.wrap (p + k + n) = p + k + n := IntWalk.i64_in _ (by omega)
  subst hD htv hQ
  have j1 : p + k ≤ p + k + n := by omega
  have j2 : p + k + n ≤ (s.size : Int) := by omega
  have j3 : 0 ≤ p + k := by omega
  have HRS := Lib.hid (hRS.push [.int .i64 0, .int .i64 0] 27)
  obtain ⟨z0, -, -, -, -⟩ := HRS.out.cells
  have hwb := Lib.hid (Below.size hRS.since)
  clear hRS
  go_enter Try.func60, Try.ntmps60
  go_wp2_with fail
  refine c1.calls0 ?_
  intro w1 h1
  have HR1 := Lib.hid ((HRS.out.step h1).push [.int .i64 0, .int .i64 t, .bool false, .int .i64 n] 76)
  have hh := lone_heap (HR1.out.others.own (lone 76 w1.heap.size [.int .i64 0, .int .i64 t, .bool false, .int .i64 n]) (by simp))
  have hp := Lib.hid (hb_new w1 KT trivial #[.int .i64 0, .int .i64 t, .bool false, .int .i64 n] 76)
  obtain ⟨_, m0, m1, m2, m3⟩ := hb4 hp
  clear h1 hh z0
  obtain ⟨z0, z1, -, -, -⟩ := HR1.out.cells
  have hx2 : decide (1000 ≤ ns.length) = false := by have := of_decide_eq_false hx; exact decide_eq_false (by omega)
  go_wp2_with fail
  clear m0 m1 m2 m3 hp z0 z1
  obtain ⟨-, z0, m0, m1, m2, m3⟩ := hd_s HR1
  go_region_held3 (fun W' => Hid (RS w0 g s (.slice tA ns.length tc) fv ov ns fr to (lone 76 w1.heap.size [.int .i64 0, .int .i64 t, .bool false, .int .i64 n] :: lone 27 W.heap.size [.int .i64 0, .int .i64 0] :: X) W') ∧ W'.cell? ⟨g, 0, none⟩ = some (.string s) ∧ W'.cell? ⟨w1.heap.size, 0, none⟩ = some (.int .i64 0) ∧ W'.cell? ⟨w1.heap.size, 1, none⟩ = some (.int .i64 t) ∧ W'.cell? ⟨w1.heap.size, 2, none⟩ = some (.bool false) ∧ W'.cell? ⟨w1.heap.size, 3, none⟩ = some (.int .i64 n))
    (first | exact hd_s (by assumption) | exact hd_s (rsD (by assumption)))
    (first | (go_at_call 72; refine c2.calls0 ?_; intro w3 h3; have HR3 := rsS h3 (by first | assumption | exact rsD (by assumption)); clear h3))
  all_goals
    replace HR1 := HR3
    go_wp2_with fail
    refine (faulty_mak 5 p).calls0 ?_
    intro w2 h2
    have HR2 := Lib.hid ((HR1.out.step h2).others)
    have hf := lone_heap (HR2.out.own (lone 27 W.heap.size [.int .i64 0, .int .i64 0]) (by simp))
    have HS2 := Lib.hid ((HR1.out.step h2).since)
    clear h2
    go_wp2_with (refine wpList_store_row rfl 27 _ _ rfl W.heap.size (F2 5 p) (by rfl) (by rfl) _ _ hf (f2_info 5 p) rfl (f2_one 5 p) ?_)
    exact bodyPost_ret (v := .tuple #[.int .i64 0, .agg (F2 5 p)]) (results_t_cell Try.results60 _ _ _ _ _ _ _ _ rfl rfl (setRow_heap _ _ _ _ _ _ hf) Try.underlying27 rfl (f2_info 5 p)) rfl ⟨rfl, rows_setRow (rows_drop HR2.out) _, below_setRow HS2.out hwb.out _⟩
end
end Tlv
end Go.Proofs.Ytihpndfjcgodiaa
