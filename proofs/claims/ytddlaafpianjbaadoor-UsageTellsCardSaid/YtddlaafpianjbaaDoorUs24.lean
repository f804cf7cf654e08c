/- Joined texts. -/
-- PACK: YtddlaafpianjbaaDoorUsage3 YtddlaafpianjbaaDoorUsage4 YtddlaafpianjbaaDoorUsage5 YtddlaafpianjbaaDoorUsage6 YtddlaafpianjbaaDoorUsage7 YtddlaafpianjbaaDoorUsage8 YtddlaafpianjbaaDoorUsage9 YtddlaafpianjbaaDoorUsage10
import Derived.Test.YtddlaafpianjbaaDoorUs23
import Derived.Test.YtddlaafpianjbaaDoorUs4
import Derived.Deep.RegionHeld3
import Derived.Test.YtddlaafpianjbaaDoorUs11

/- The reference of usage: in, Ops, Of. -/
namespace Go.Proofs.YtddlaafpianjbaaDoor
open Go.RowKit
namespace Us
def RdIn (s : ByteArray) (l : List ByteArray) (q : Bool) : Prop := ∀ w x, StrsS w x l → Calls Tryd.prog 28 #[.string s, x] w fun e w' => e = .returned (.bool q) ∧ w = w'
set_option maxRecDepth 100000 in
theorem RdIn.calls {s : ByteArray} {l : List ByteArray} {q : Bool} (h : RdIn s l q) {w : World} {x : Value} (hx : StrsS w x l) {R : Ending → World → Prop} (k : R (.returned (.bool q)) w) : Calls Tryd.prog 28 #[.string s, x] w R :=
  (h w x hx).mono fun _ _ ⟨he, hw⟩ => by subst he; subst hw; exact k
theorem sT {x y : ByteArray} (h : x = y) : (x.toList == y.toList) = true := by rw [h]; exact beq_self_eq_true _
theorem sF {x y : ByteArray} (h : x ≠ y) : (x.toList == y.toList) = false := by
  rw [beq_eq_false_iff_ne]
  intro h2
  rw [toList_d, toList_d] at h2
  exact h (ba_ext h2)
def memB (s : ByteArray) (l : List ByteArray) : Bool := l.any (fun x => decide (x = s))
theorem memB_T {s : ByteArray} {l : List ByteArray} (h : s ∈ l) : memB s l = true := List.any_eq_true.2 ⟨s, h, decide_eq_true rfl⟩
theorem memB_F {s : ByteArray} {l : List ByteArray} (h : s ∉ l) : memB s l = false := by
  unfold memB
  rw [List.any_eq_false]
  intro x hx h2
  rw [of_decide_eq_true h2] at hx
  exact h hx
set_option maxRecDepth 100000 in
theorem in_nil (s : ByteArray) : RdIn s [] false := by
  intro w x hx
  obtain ⟨A, c, rfl, _⟩ := SlR.empty hx rfl
  clear hx
  go_enter Tryd.func28, Tryd.ntmps28
  go_wp2_with fail
  go_loop [5] (fun i => i = .int .i64 0) (fun i => 0 - (intOf i).toNat)
  case atStart => rfl
  case round =>
    subst hrel
    go_wp2_with fail
    go_ret
    exact ⟨rfl, rfl⟩
set_option maxRecDepth 100000 in
set_option maxHeartbeats 2000000 in
theorem in_rd (s : ByteArray) (l : List ByteArray) : RdIn s l (memB s l) := by
  by_cases h0 : l.length = 0
  · obtain rfl := List.length_eq_zero_iff.1 h0
    exact in_nil s
  intro w x hx
  have hle := SlR.le hx
  obtain ⟨b, o, c, rfl, h1, h2, h3, h4⟩ := SlR.form hx (by omega)
  obtain ⟨k0, hk0⟩ : ∃ k, k = l.length := ⟨_, rfl⟩
  rw [← hk0] at h1 h0 hle ⊢
  have HC := Lib.hid (fun i s (hs : l[i]? = some s) => h4 i _ (show (l.map Value.string)[i]? = some (.string s) by rw [List.getElem?_map, hs]; rfl))
  have HN := Lib.hid hk0
  clear h4 hx hk0
  go_enter Tryd.func28, Tryd.ntmps28
  go_wp2_with fail
  go_loop [5] (fun i => ∃ k : Nat, k ≤ k0 ∧ i = .int .i64 (k : Int) ∧ Hid (s ∉ l.take k)) (fun i => k0 - (intOf i).toNat)
  case atStart => exact ⟨0, by omega, rfl, Lib.hid (by simp)⟩
  case round =>
    obtain ⟨k, hk, rfl, HA⟩ := hrel
    by_cases hlt : k < k0
    · obtain ⟨y, hs⟩ : ∃ s, l[k]? = some s := ⟨l[k]'(by rw [← HN.out]; exact hlt), List.getElem?_eq_getElem _⟩
      have m0 := HC.out k y hs
      have i1 : (0 : Int) ≤ (k : Int) := by omega
      have i2 : (k : Int) < (k0 : Int) := by omega
      obtain ⟨g1, g2⟩ := List.getElem?_eq_some_iff.1 hs
      have HM := Lib.hid (List.mem_of_getElem? hs)
      have HT := Lib.hid (List.take_succ_eq_append_getElem g1)
      rw [g2] at HT
      clear hs g2
      by_cases hz : y = s
      · have t2 := sT hz
        have hqf : memB s l = true := memB_T (by rw [← hz]; exact HM.out)
        clear HM HT hz
        go_wp2_with fail
        go_ret
        exact ⟨by first | rfl | (rw [hqf]; rfl), rfl⟩
      · have t2 := sF hz
        have HA2 := Lib.hid (show s ∉ l.take (k + 1) by
          rw [HT.out, List.mem_append]
          intro h
          rcases h with h | h
          · exact HA.out h
          · rw [List.mem_singleton] at h; exact hz h.symm)
        clear HM HT hz
        go_wp2_with fail
        go_round
        case rel => exact ⟨k + 1, by omega, by go_num, HA2⟩
        case measure => simp [intOf]; omega
    · obtain rfl : k0 = k := by omega
      have hqt : memB s l = false := memB_F (by have h9 := HA.out; rw [HN.out, List.take_length] at h9; exact h9)
      go_wp2_with fail
      go_ret
      exact ⟨by first | rfl | (rw [hqt]; rfl), rfl⟩
def opsA : Array Value := (ops.map Value.string).toArray
def NewOps (f : Nat) : Prop := ∀ w, Calls Tryd.prog f #[] w fun e w' => ∃ t, e = .returned (.slice (some ⟨w.heap.size, 0, none⟩) 8 8) ∧ w' = w.alloc (.cells opsA t)
set_option maxRecDepth 100000 in
theorem rops_new : NewOps 11 := by
  intro w
  go_enter Tryd.func11, Tryd.ntmps11
  go_wp2_with fail
  go_ret
  exact ⟨_, rfl, rfl⟩
set_option maxRecDepth 100000 in
theorem ops_new : NewOps 10 := by
  intro w
  go_enter Tryd.func10, Tryd.ntmps10
  go_wp2_with fail
  go_ret
  exact ⟨_, rfl, rfl⟩
end Us
end Go.Proofs.YtddlaafpianjbaaDoor

/- The reference of usage: Of. -/
namespace Go.Proofs.YtddlaafpianjbaaDoor
open Go.RowKit
namespace Us
def ofL (u m : ByteArray) (k : Nat) : List ByteArray := (ops.take k).filter (mayB u m)
/-- what Of answers for a head -/
def MkOf (f : Nat) (K : World → Prop) (u m v e : ByteArray) (ss : List ByteArray) : Prop := ∀ w, K w → Calls Tryd.prog f #[.agg #[.string u, .string m, .string v, .string e]] w fun r w' => ∃ x, r = .returned x ∧ StrsS w' x ss ∧ Since w w'
theorem ofL_len (u m : ByteArray) (k : Nat) : (ofL u m k).length ≤ 8 := Nat.le_trans (List.length_filter_le _ _) (by rw [List.length_take]; exact Nat.min_le_right _ _)
theorem ofL_step (u m : ByteArray) (k : Nat) (op : ByteArray) (h : ops[k]? = some op) : ofL u m (k + 1) = ofL u m k ++ (if mayB u m op then [op] else []) := by
  obtain ⟨g1, g2⟩ := List.getElem?_eq_some_iff.1 h
  unfold ofL
  rw [List.take_succ_eq_append_getElem g1, List.filter_append, g2]
  congr 1
  cases hq : mayB u m op <;> simp [hq]
def OwnS (w : World) (base : Nat) (v : Value) (ss : List ByteArray) : Prop := w.ownsRow base 9 1 v ss.length (ss.map Value.string)
/-- the two boxes of the loop -/
theorem two {w w1 W2 wr : World} {g g1 : Nat} {u m v e : ByteArray} {W : World} {k : Nat} {op : ByteArray} (hk : Hid (opsA[k]? = some (.string op))) (h : Hid (HB w KT g #[.string u, .string m, .string v, .string e] W2)) (h2 : Hid (HB w1 KT g1 opsA W2)) (hr : Hid (Since W2 wr)) (hs : Hid (Since wr W)) :
    Hid (Since wr W) ∧ W.cell? ⟨g, 0, none⟩ = some (.string u) ∧ W.cell? ⟨g, 1, none⟩ = some (.string m) ∧ W.cell? ⟨g, 2, none⟩ = some (.string v) ∧ W.cell? ⟨g, 3, none⟩ = some (.string e) ∧ W.cell? ⟨g1, k, none⟩ = some (.string op) := by
  have a := h.out.step (hr.out.step hs.out)
  have b := h2.out.step (hr.out.step hs.out)
  exact ⟨hs, a.cell 0 _ rfl, a.cell 1 _ rfl, a.cell 2 _ rfl, a.cell 3 _ rfl, b.cell k _ hk.out⟩
set_option maxRecDepth 100000 in
set_option maxHeartbeats 4000000 in
theorem rof_mk (u m v e : ByteArray) : MkOf 9 KT u m v e (ops.filter (mayB u m)) := by
  intro w hK
  have hp := Lib.hid (hb_new w KT trivial #[.string u, .string m, .string v, .string e] 24)
  clear hK
  go_enter Tryd.func9, Tryd.ntmps9
  go_wp2_with fail
  refine (rops_new _).mono ?_
  rintro r w1 ⟨t, rfl, rfl⟩
  obtain ⟨w1, hw1⟩ : ∃ w1, w1 = w.alloc (.cells #[.string u, .string m, .string v, .string e] 24) := ⟨_, rfl⟩
  have hg : w1.heap.size = w.heap.size + 1 := by rw [hw1]; simp
  rw [← hw1] at hp ⊢
  have ho := Lib.hid (hb_new w1 KT trivial opsA t)
  replace hp := hbstep ho.out.since hp
  clear hw1
  rw [hg] at ho ⊢
  obtain ⟨W2, hW2⟩ : ∃ W2, W2 = w1.alloc (.cells opsA t) := ⟨_, rfl⟩
  rw [← hW2] at hp ho ⊢
  clear hW2 hg
  go_wp2_with fail
  go_loopw [3, 5] (fun ov i wr => ∃ k : Nat, k ≤ 8 ∧ i = .int .i64 (k : Int) ∧ Hid (OwnS wr W2.heap.size ov (ofL u m k)) ∧ Hid (Since W2 wr)) (fun _ i _ => 8 - (intOf i).toNat)
  case atStart => exact ⟨0, by omega, rfl, Lib.hid ⟨by rfl, Or.inl ⟨rfl, rfl⟩⟩, Lib.hid (Since.refl W2)⟩
  case round =>
    obtain ⟨k, hk, rfl, HO, HS⟩ := hrel
    by_cases hlt : k < 8
    · obtain ⟨op, hop⟩ : ∃ op, ops[k]? = some op := ⟨ops[k]'hlt, List.getElem?_eq_getElem _⟩
      have hA : opsA[k]? = some (.string op) := by unfold opsA; rw [List.getElem?_toArray, List.getElem?_map, hop]; rfl
      have hlen := ofL_len u m k
      have hst := ofL_step u m k op hop
      have c1 := may_mak u m v e op (List.mem_of_getElem? hop)
      have HA := Lib.hid hA
      have i1 : (0 : Int) ≤ (k : Int) := by omega
      have i2 : (k : Int) < 8 := by omega
      have t1 : decide ((k : Int) < 8) = true := decide_eq_true i2
      clear hop hA
      cases hq : mayB u m op with
      | false =>
        rw [hq, if_neg (by decide), List.append_nil] at hst
        rw [hq] at c1
        clear hq
        have HT := Lib.hid hst
        clear hst
        go_wp2_with fail
        obtain ⟨_, m0, m1, m2, m3, m4⟩ := two HA hp ho HS (Lib.hid (Since.refl wr))
        go_region_held3 (fun W' => Hid (Since wr W') ∧ W'.cell? ⟨w.heap.size, 0, none⟩ = some (.string u) ∧ W'.cell? ⟨w.heap.size, 1, none⟩ = some (.string m) ∧ W'.cell? ⟨w.heap.size, 2, none⟩ = some (.string v) ∧ W'.cell? ⟨w.heap.size, 3, none⟩ = some (.string e) ∧ W'.cell? ⟨w.heap.size + 1, k, none⟩ = some (.string op))
          (first | exact two HA hp ho HS (by assumption) | exact two HA hp ho HS (Lib.hid (Since.drew (Since.refl _))))
          (first
            | (go_at_call 26; refine c1.calls0 ?_; intro w5 h5; have h6 : Hid (Since wr w5) := Lib.hid ((Hid.out (by first | assumption | exact Lib.hid (Since.drew (Since.refl _))) : Since wr _).step h5); clear h5))
        clear m0 m1 m2 m3 m4
        all_goals
          have HO2 := Lib.hid (Att.row_since HO.out h6.out)
          have HS2 := Lib.hid (HS.out.step h6.out)
          clear h6
          go_wp2_with fail
          go_roundw
          case rel => exact ⟨k + 1, by omega, by go_num, Lib.hid (by rw [HT.out]; exact HO2.out), HS2⟩
          case measure => simp [intOf]; omega
      | true =>
        rw [hq, if_pos rfl] at hst
        rw [hq] at c1
        clear hq
        have HT := Lib.hid hst
        clear hst
        go_wp2_with fail
        obtain ⟨_, m0, m1, m2, m3, m4⟩ := two HA hp ho HS (Lib.hid (Since.refl wr))
        go_region_held3 (fun W' => Hid (Since wr W') ∧ W'.cell? ⟨w.heap.size, 0, none⟩ = some (.string u) ∧ W'.cell? ⟨w.heap.size, 1, none⟩ = some (.string m) ∧ W'.cell? ⟨w.heap.size, 2, none⟩ = some (.string v) ∧ W'.cell? ⟨w.heap.size, 3, none⟩ = some (.string e) ∧ W'.cell? ⟨w.heap.size + 1, k, none⟩ = some (.string op))
          (first | exact two HA hp ho HS (by assumption) | exact two HA hp ho HS (Lib.hid (Since.drew (Since.refl _))))
          (first
            | (go_at_call 26; refine c1.calls0 ?_; intro w5 h5; have h6 : Hid (Since wr w5) := Lib.hid ((Hid.out (by first | assumption | exact Lib.hid (Since.drew (Since.refl _))) : Since wr _).step h5); clear h5))
        clear m0 m1 m2 m3 m4
        all_goals
          have HO2 := Lib.hid (Att.row_since HO.out h6.out)
          have HS2 := Lib.hid (HS.out.step h6.out)
          clear h6
          obtain ⟨_, m0, m1, m2, m3, m4⟩ := two HA hp ho HS2 (Lib.hid (Since.refl w5))
          clear m0 m1 m2 m3
          go_wp2_with (at_builtin; refine app_one elemS rfl _ _ (by rfl) W2 w5 _ (ofL u m k).length _ (by rfl) HO2.out HS2.out (.string op) (by rfl) rfl (by omega) (by decide) ?_)
          intro v2 w6 hO2 hS2
          have HO2 := Lib.hid hO2
          clear hO2
          have HS2 := Lib.hid hS2
          clear hS2
          clear m4
          go_wp2_with fail
          go_roundw
          case rel => exact ⟨k + 1, by omega, by go_num, Lib.hid (by rw [HT.out]; unfold OwnS; rw [List.length_append, List.map_append]; exact HO2.out), HS2⟩
          case measure => simp [intOf]; omega
    · obtain rfl : k = 8 := by omega
      have h0 := hp.out.since.step HS.out
      have t1 : decide ((8 : Int) < 8) = false := rfl
      go_wp2_with fail
      go_ret
      exact ⟨_, rfl, SlR.own HO.out, h0⟩
end Us
end Go.Proofs.YtddlaafpianjbaaDoor

/- The reference of usage: Get, Export, May, Leaves. -/
namespace Go.Proofs.YtddlaafpianjbaaDoor
open Go.RowKit
namespace Us
open Att
def getP (L : List A2) (t : Int) : Option A2 := L.find? (fun p => decide (p.1 = t))
def getS (L : List A2) (t : Int) : ByteArray := match getP L t with | some p => p.2 | none => ⟨#[]⟩
def getB (L : List A2) (t : Int) : Bool := (getP L t).isSome
def getV (L : List A2) (t : Int) : Value := .tuple #[.string (getS L t), .bool (getB L t)]
set_option maxRecDepth 100000 in
theorem rget_nil (t : Int) : RdA 30 [] (fun x => #[x, .int .i64 t]) (getV [] t) := by
  intro w x hx
  have HS := Lib.hid (Since.refl w)
  obtain ⟨A, c, rfl, _⟩ := hx.empty rfl
  clear hx
  go_enter Tryd.func30, Tryd.ntmps30
  go_wp2_with fail
  go_loop [6] (fun i => i = .int .i64 0) (fun i => 0 - (intOf i).toNat)
  case atStart => rfl
  case round =>
    subst hrel
    go_wp2_with fail
    go_ret2
    exact ⟨rfl, HS.out⟩
theorem find_at {L : List A2} {t : Int} {k : Nat} {p : A2} (h : L[k]? = some p) (hn : ∀ q ∈ L.take k, q.1 ≠ t) (hp : p.1 = t) : getP L t = some p := by
  obtain ⟨g1, g2⟩ := List.getElem?_eq_some_iff.1 h
  have e : L = L.take k ++ (p :: L.drop (k + 1)) := by
    rw [← g2, List.getElem_cons_drop, List.take_append_drop]
  unfold getP
  rw [e, List.find?_append]
  have h0 : (L.take k).find? (fun p => decide (p.1 = t)) = none := List.find?_eq_none.2 (fun q hq => by simpa using hn q hq)
  rw [h0]
  simp [hp]
theorem find_none {L : List A2} {t : Int} (hn : ∀ q ∈ L, q.1 ≠ t) : getP L t = none := List.find?_eq_none.2 (fun q hq => by simpa using hn q hq)
set_option maxRecDepth 100000 in
set_option maxHeartbeats 4000000 in
theorem rget_rd (L : List A2) (t : Int) : RdA 30 L (fun x => #[x, .int .i64 t]) (getV L t) := by
  by_cases h0 : L.length = 0
  · obtain rfl := List.length_eq_zero_iff.1 h0
    exact rget_nil t
  intro w x hx
  obtain ⟨b, o, c, rfl, h1, h2, h3, h4⟩ := hx.form (by omega)
  obtain ⟨n, hn⟩ : ∃ n, n = L.length := ⟨_, rfl⟩
  have hle := hx.le
  rw [← hn] at h0 h1 hle ⊢
  have HS := Lib.hid (Since.refl w)
  have HC := Lib.hid h4
  have HN := Lib.hid hn
  clear h4 hx hn
  go_enter Tryd.func30, Tryd.ntmps30
  go_wp2_with fail
  go_loop [6] (fun i => ∃ k : Nat, k ≤ n ∧ i = .int .i64 (k : Int) ∧ Hid (∀ q ∈ L.take k, q.1 ≠ t)) (fun i => n - (intOf i).toNat)
  case atStart => exact ⟨0, by omega, rfl, Lib.hid (by simp)⟩
  case round =>
    obtain ⟨k, hk, rfl, HA⟩ := hrel
    by_cases hlt : k < n
    · obtain ⟨⟨y, s⟩, hs⟩ : ∃ s, L[k]? = some s := ⟨L[k]'(by rw [← HN.out]; exact hlt), List.getElem?_eq_getElem _⟩
      obtain ⟨m0, m1⟩ := HC.out k _ hs
      replace m0 : w.cell? ⟨b, o + k * 2, none⟩ = some (.int .i64 y) := m0
      replace m1 : w.cell? ⟨b, o + k * 2 + 1, none⟩ = some (.string s) := m1
      have i1 : (0 : Int) ≤ (k : Int) := by omega
      have i2 : (k : Int) < (n : Int) := by omega
      by_cases hz : y = t
      · have t2 : (y == t) = true := beq_iff_eq.2 hz
        have HG := Lib.hid (find_at hs HA.out hz)
        clear hs hz
        go_wp2_with fail
        go_ret2
        exact ⟨by unfold getV getS getB; rw [HG.out]; rfl, HS.out⟩
      · have t2 : (y == t) = false := beq_eq_false_iff_ne.2 hz
        obtain ⟨g1, g2⟩ := List.getElem?_eq_some_iff.1 hs
        have HA2 := Lib.hid (show ∀ q ∈ L.take (k + 1), q.1 ≠ t by
          rw [List.take_succ_eq_append_getElem g1, g2]
          intro q hq
          rw [List.mem_append, List.mem_singleton] at hq
          rcases hq with hq | rfl
          · exact HA.out q hq
          · exact hz)
        clear hs hz g1 g2
        go_wp2_with fail
        go_round
        case rel => exact ⟨k + 1, by omega, by go_num, HA2⟩
        case measure => simp [intOf]; omega
    · obtain rfl : n = k := by omega
      have HG := Lib.hid (find_none (L := L) (t := t) (by have h9 := HA.out; rw [HN.out, List.take_length] at h9; exact h9))
      go_wp2_with fail
      go_ret2
      exact ⟨by unfold getV getS getB; rw [HG.out]; rfl, HS.out⟩
end Us
end Go.Proofs.YtddlaafpianjbaaDoor

/- The reference of usage: Export, May, Leaves. -/
namespace Go.Proofs.YtddlaafpianjbaaDoor
open Go.RowKit
namespace Us
open Att
abbrev rv (K : Int) (k u m v e : ByteArray) (x : Value) : Value := .agg #[.int .i64 K, .string k, x, .string u, .string m, .string v, .string e]
structure UX (w : World) (g : Nat) (K : Int) (k u m v e : ByteArray) (x : Value) (L : List A2) (W : World) : Prop where
  hb : HB w KT g #[.int .i64 K, .string k, x, .string u, .string m, .string v, .string e] W
  atts : AttsS W x L
section
variable {w : World} {g : Nat} {K : Int} {k u m v e : ByteArray} {x : Value} {L : List A2} {W W' : World}
theorem uxstep (hs : Since W W') (h : Hid (UX w g K k u m v e x L W)) : Hid (UX w g K k u m v e x L W') := Lib.hid ⟨h.out.hb.step hs, h.out.atts.since hs⟩
theorem uxdrew (h : Hid (UX w g K k u m v e x L W)) : Hid (UX w g K k u m v e x L W.drew) := uxstep (Below.drew (Below.refl _ _)) h
theorem ux7 (h : Hid (UX w g K k u m v e x L W)) : Hid (UX w g K k u m v e x L W) ∧ W.cell? ⟨g, 0, none⟩ = some (.int .i64 K) ∧ W.cell? ⟨g, 1, none⟩ = some (.string k) ∧ W.cell? ⟨g, 2, none⟩ = some x ∧ W.cell? ⟨g, 3, none⟩ = some (.string u) ∧ W.cell? ⟨g, 4, none⟩ = some (.string m) ∧ W.cell? ⟨g, 5, none⟩ = some (.string v) ∧ W.cell? ⟨g, 6, none⟩ = some (.string e) :=
  ⟨h, h.out.hb.cell 0 _ rfl, h.out.hb.cell 1 _ rfl, h.out.hb.cell 2 _ rfl, h.out.hb.cell 3 _ rfl, h.out.hb.cell 4 _ rfl, h.out.hb.cell 5 _ rfl, h.out.hb.cell 6 _ rfl⟩
theorem ux_new (hx : AttsS w x L) : UX w w.heap.size K k u m v e x L (w.alloc (.cells #[.int .i64 K, .string k, x, .string u, .string m, .string v, .string e] 26)) :=
  ⟨hb_new w KT trivial _ _, hx.since ((Since.refl w).alloc _)⟩
end
def bareB (u m v e : ByteArray) : Bool := decide (u.toList = []) && decide (m.toList = []) && decide (v.toList = []) && decide (e.toList = [])
theorem bare_T {u m v e : ByteArray} (h : bareB u m v e = true) : u.toList = [] ∧ m.toList = [] ∧ v.toList = [] ∧ e.toList = [] := by
  unfold bareB at h
  simp only [Bool.and_eq_true, decide_eq_true_eq] at h
  exact ⟨h.1.1.1, h.1.1.2, h.1.2, h.2⟩
theorem bare_F {u m v e : ByteArray} (h : bareB u m v e = false) : ¬ u.toList = [] ∨ (u.toList = [] ∧ ¬ m.toList = []) ∨ (u.toList = [] ∧ m.toList = [] ∧ ¬ v.toList = []) ∨ (u.toList = [] ∧ m.toList = [] ∧ v.toList = [] ∧ ¬ e.toList = []) := by
  unfold bareB at h
  by_cases h1 : u.toList = [] <;> by_cases h2 : m.toList = [] <;> by_cases h3 : v.toList = [] <;> by_cases h4 : e.toList = [] <;> simp_all
def expV (u m v e : ByteArray) (L : List A2) : ByteArray := if bareB u m v e then (if (getS L 65535).size = 6 then (getS L 65535).extract 5 6 else getS L 1) else e
set_option maxRecDepth 100000 in
theorem bare_rd (K : Int) (k u m v e : ByteArray) (L : List A2) : RdA 27 L (fun x => #[rv K k u m v e x]) (.bool (bareB u m v e)) := by
  intro w x hx
  obtain ⟨A, q, rfl, hq1, hq2⟩ := hx.slice
  have hp := Lib.hid (ux_new (K := K) (k := k) (u := u) (m := m) (v := v) (e := e) hx)
  obtain ⟨_, m0, m1, m2, m3, m4, m5, m6⟩ := ux7 hp
  clear hx
  go_enter Tryd.func27, Tryd.ntmps27
  go_wp2_with fail
  all_goals
    go_ret
    exact ⟨by simp_all [bareB], hp.out.hb.since⟩
set_option maxRecDepth 100000 in
theorem rexp_no (K : Int) (k u m v e : ByteArray) (L : List A2) (hb : bareB u m v e = false) : RdA 15 L (fun x => #[rv K k u m v e x]) (.string e) := by
  rcases bare_F hb with h1 | ⟨h1, h2⟩ | ⟨h1, h2, h3⟩ | ⟨h1, h2, h3, h4⟩
  all_goals
    clear hb
    intro w x hx
    obtain ⟨A, q, rfl, hq1, hq2⟩ := hx.slice
    have hp := Lib.hid (ux_new (K := K) (k := k) (u := u) (m := m) (v := v) (e := e) hx)
    obtain ⟨_, m0, m1, m2, m3, m4, m5, m6⟩ := ux7 hp
    clear hx
    go_enter Tryd.func15, Tryd.ntmps15
    go_wp2_with fail
    go_ret
    exact ⟨rfl, hp.out.hb.since⟩
set_option maxRecDepth 100000 in
theorem rexp_6 (K : Int) (k u m v e : ByteArray) (L : List A2) (hb : bareB u m v e = true) (F : ByteArray) (B : Bool) (hF : F.size = 6) (c1 : RdA 30 L (fun x => #[x, .int .i64 65535]) (.tuple #[.string F, .bool B])) : RdA 15 L (fun x => #[rv K k u m v e x]) (.string (F.extract 5 6)) := by
  obtain ⟨h1, h2, h3, h4⟩ := bare_T hb
  have t1 : ((F.size : Int) == 6) = true := by rw [hF]; rfl
  have i1 : (5 : Int) ≤ (F.size : Int) := by omega
  clear hb
  intro w x hx
  obtain ⟨A, q, rfl, hq1, hq2⟩ := hx.slice
  have hp := Lib.hid (ux_new (K := K) (k := k) (u := u) (m := m) (v := v) (e := e) hx)
  obtain ⟨_, m0, m1, m2, m3, m4, m5, m6⟩ := ux7 hp
  clear hx
  go_enter Tryd.func15, Tryd.ntmps15
  go_wp2_with fail
  refine c1.calls0 hp.out.atts ?_
  intro w1 h5
  replace hp := uxstep h5 hp
  clear h5 m0 m1 m2 m3 m4 m5 m6
  go_wp2_with fail
  go_ret
  exact ⟨by rw [← hF]; rfl, hp.out.hb.since⟩
set_option maxRecDepth 100000 in
theorem rexp_1 (K : Int) (k u m v e : ByteArray) (L : List A2) (hb : bareB u m v e = true) (F G : ByteArray) (B C : Bool) (hF : F.size ≠ 6) (c1 : RdA 30 L (fun x => #[x, .int .i64 65535]) (.tuple #[.string F, .bool B])) (c2 : RdA 30 L (fun x => #[x, .int .i64 1]) (.tuple #[.string G, .bool C])) : RdA 15 L (fun x => #[rv K k u m v e x]) (.string G) := by
  obtain ⟨h1, h2, h3, h4⟩ := bare_T hb
  have t1 : ((F.size : Int) == 6) = false := beq_eq_false_iff_ne.2 (by omega)
  clear hb
  intro w x hx
  obtain ⟨A, q, rfl, hq1, hq2⟩ := hx.slice
  have hp := Lib.hid (ux_new (K := K) (k := k) (u := u) (m := m) (v := v) (e := e) hx)
  obtain ⟨_, m0, m1, m2, m3, m4, m5, m6⟩ := ux7 hp
  clear hx
  go_enter Tryd.func15, Tryd.ntmps15
  go_wp2_with fail
  refine c1.calls0 hp.out.atts ?_
  intro w1 h5
  replace hp := uxstep h5 hp
  clear h5 m0 m1 m2 m3 m4 m5 m6
  obtain ⟨_, m0, m1, m2, m3, m4, m5, m6⟩ := ux7 hp
  go_wp2_with fail
  refine c2.calls0 hp.out.atts ?_
  intro w2 h5
  replace hp := uxstep h5 hp
  clear h5 m0 m1 m2 m3 m4 m5 m6
  go_wp2_with fail
  go_ret
  exact ⟨rfl, hp.out.hb.since⟩
theorem rexp_rd (K : Int) (k u m v e : ByteArray) (L : List A2) : RdA 15 L (fun x => #[rv K k u m v e x]) (.string (expV u m v e L)) := by
  unfold expV
  cases hb : bareB u m v e with
  | false => rw [if_neg (by decide)]; exact rexp_no K k u m v e L hb
  | true =>
    rw [if_pos rfl]
    by_cases hF : (getS L 65535).size = 6
    · rw [if_pos hF]; exact rexp_6 K k u m v e L hb _ _ hF (rget_rd L 65535)
    · rw [if_neg hF]; exact rexp_1 K k u m v e L hb _ _ _ _ hF (rget_rd L 65535) (rget_rd L 1)
end Us
end Go.Proofs.YtddlaafpianjbaaDoor

/- The reference of usage: Leaves, May. -/
namespace Go.Proofs.YtddlaafpianjbaaDoor
open Go.RowKit
namespace Us
open Att
def leaE (X : ByteArray) (tr : Bool) : Int := if X = ⟨#[78]⟩ then 14 else if X = ⟨#[69]⟩ then (if tr then 0 else 14) else 0
def mayE (u m v e op : ByteArray) : Int := if memB op ops then (if bareB u m v e then 0 else if memB op (ops.filter (mayB u m)) then 0 else 14) else 1
def MkS (f : Nat) (args : Array Value) (ss : List ByteArray) : Prop := ∀ w, Calls Tryd.prog f args w fun r w' => ∃ x, r = .returned x ∧ StrsS w' x ss ∧ Since w w'
theorem new_mk {f : Nat} (h : NewOps f) : MkS f #[] ops := fun w => (h w).mono fun r w' ⟨t, he, hw⟩ => by
  subst hw
  exact ⟨_, he, SlR.lit w 1 8 (ops.map Value.string) rfl (by decide) opsA rfl t, (Since.refl w).alloc _⟩
theorem rops_mk : MkS 11 #[] ops := new_mk rops_new
section
variable (K : Int) (k u m v e : ByteArray) (L : List A2)
set_option maxRecDepth 100000 in
theorem rlea_n (X : ByteArray) (tr : Bool) (t1 : (X.toList == [78]) = true) (c1 : RdA 15 L (fun x => #[rv K k u m v e x]) (.string X)) : RdA 17 L (fun x => #[rv K k u m v e x, .bool tr]) (.int .i64 14) := by
  intro w x hx
  obtain ⟨A, q, rfl, hq1, hq2⟩ := hx.slice
  have hp := Lib.hid (ux_new (K := K) (k := k) (u := u) (m := m) (v := v) (e := e) hx)
  obtain ⟨_, m0, m1, m2, m3, m4, m5, m6⟩ := ux7 hp
  clear hx
  go_enter Tryd.func17, Tryd.ntmps17
  go_wp2_with fail
  clear m0 m1 m2 m3 m4 m5 m6
  refine (c1.calls0 hp.out.atts) ?_
  intro w1 h1
  replace hp := uxstep (by first | exact h1 | exact (Since.alloc (Since.refl _) _).step h1) hp
  clear h1
  obtain ⟨_, m0, m1, m2, m3, m4, m5, m6⟩ := ux7 hp
  go_wp2_with fail
  clear m0 m1 m2 m3 m4 m5 m6
  go_ret
  exact ⟨rfl, hp.out.hb.since⟩
set_option maxRecDepth 100000 in
theorem rlea_o (X : ByteArray) (tr : Bool) (t1 : (X.toList == [78]) = false) (t2 : (X.toList == [69]) = false) (c1 : RdA 15 L (fun x => #[rv K k u m v e x]) (.string X)) : RdA 17 L (fun x => #[rv K k u m v e x, .bool tr]) (.int .i64 0) := by
  intro w x hx
  obtain ⟨A, q, rfl, hq1, hq2⟩ := hx.slice
  have hp := Lib.hid (ux_new (K := K) (k := k) (u := u) (m := m) (v := v) (e := e) hx)
  obtain ⟨_, m0, m1, m2, m3, m4, m5, m6⟩ := ux7 hp
  clear hx
  go_enter Tryd.func17, Tryd.ntmps17
  go_wp2_with fail
  clear m0 m1 m2 m3 m4 m5 m6
  refine (c1.calls0 hp.out.atts) ?_
  intro w1 h1
  replace hp := uxstep (by first | exact h1 | exact (Since.alloc (Since.refl _) _).step h1) hp
  clear h1
  obtain ⟨_, m0, m1, m2, m3, m4, m5, m6⟩ := ux7 hp
  go_wp2_with fail
  clear m0 m1 m2 m3 m4 m5 m6
  refine (c1.calls0 hp.out.atts) ?_
  intro w2 h2
  replace hp := uxstep (by first | exact h2 | exact (Since.alloc (Since.refl _) _).step h2) hp
  clear h2
  obtain ⟨_, m0, m1, m2, m3, m4, m5, m6⟩ := ux7 hp
  go_wp2_with fail
  clear m0 m1 m2 m3 m4 m5 m6
  go_ret
  exact ⟨rfl, hp.out.hb.since⟩
set_option maxRecDepth 100000 in
theorem rlea_t (X : ByteArray) (t1 : (X.toList == [78]) = false) (t2 : (X.toList == [69]) = true) (c1 : RdA 15 L (fun x => #[rv K k u m v e x]) (.string X)) : RdA 17 L (fun x => #[rv K k u m v e x, .bool true]) (.int .i64 0) := by
  intro w x hx
  obtain ⟨A, q, rfl, hq1, hq2⟩ := hx.slice
  have hp := Lib.hid (ux_new (K := K) (k := k) (u := u) (m := m) (v := v) (e := e) hx)
  obtain ⟨_, m0, m1, m2, m3, m4, m5, m6⟩ := ux7 hp
  clear hx
  go_enter Tryd.func17, Tryd.ntmps17
  go_wp2_with fail
  clear m0 m1 m2 m3 m4 m5 m6
  refine (c1.calls0 hp.out.atts) ?_
  intro w1 h1
  replace hp := uxstep (by first | exact h1 | exact (Since.alloc (Since.refl _) _).step h1) hp
  clear h1
  obtain ⟨_, m0, m1, m2, m3, m4, m5, m6⟩ := ux7 hp
  go_wp2_with fail
  clear m0 m1 m2 m3 m4 m5 m6
  refine (c1.calls0 hp.out.atts) ?_
  intro w2 h2
  replace hp := uxstep (by first | exact h2 | exact (Since.alloc (Since.refl _) _).step h2) hp
  clear h2
  obtain ⟨_, m0, m1, m2, m3, m4, m5, m6⟩ := ux7 hp
  go_wp2_with fail
  clear m0 m1 m2 m3 m4 m5 m6
  go_ret
  exact ⟨rfl, hp.out.hb.since⟩
set_option maxRecDepth 100000 in
theorem rlea_f (X : ByteArray) (t1 : (X.toList == [78]) = false) (t2 : (X.toList == [69]) = true) (c1 : RdA 15 L (fun x => #[rv K k u m v e x]) (.string X)) : RdA 17 L (fun x => #[rv K k u m v e x, .bool false]) (.int .i64 14) := by
  intro w x hx
  obtain ⟨A, q, rfl, hq1, hq2⟩ := hx.slice
  have hp := Lib.hid (ux_new (K := K) (k := k) (u := u) (m := m) (v := v) (e := e) hx)
  obtain ⟨_, m0, m1, m2, m3, m4, m5, m6⟩ := ux7 hp
  clear hx
  go_enter Tryd.func17, Tryd.ntmps17
  go_wp2_with fail
  clear m0 m1 m2 m3 m4 m5 m6
  refine (c1.calls0 hp.out.atts) ?_
  intro w1 h1
  replace hp := uxstep (by first | exact h1 | exact (Since.alloc (Since.refl _) _).step h1) hp
  clear h1
  obtain ⟨_, m0, m1, m2, m3, m4, m5, m6⟩ := ux7 hp
  go_wp2_with fail
  clear m0 m1 m2 m3 m4 m5 m6
  refine (c1.calls0 hp.out.atts) ?_
  intro w2 h2
  replace hp := uxstep (by first | exact h2 | exact (Since.alloc (Since.refl _) _).step h2) hp
  clear h2
  obtain ⟨_, m0, m1, m2, m3, m4, m5, m6⟩ := ux7 hp
  go_wp2_with fail
  clear m0 m1 m2 m3 m4 m5 m6
  go_ret
  exact ⟨rfl, hp.out.hb.since⟩
theorem rlea_rd (tr : Bool) : RdA 17 L (fun x => #[rv K k u m v e x, .bool tr]) (.int .i64 (leaE (expV u m v e L) tr)) := by
  have c1 := rexp_rd K k u m v e L
  unfold leaE
  by_cases h1 : expV u m v e L = ⟨#[78]⟩
  · rw [if_pos h1]; exact rlea_n K k u m v e L _ tr (lT h1) c1
  · rw [if_neg h1]
    by_cases h2 : expV u m v e L = ⟨#[69]⟩
    · rw [if_pos h2]
      cases tr
      · exact rlea_f K k u m v e L _ (lF h1) (lT h2) c1
      · exact rlea_t K k u m v e L _ (lF h1) (lT h2) c1
    · rw [if_neg h2]; exact rlea_o K k u m v e L _ tr (lF h1) (lF h2) c1
set_option maxRecDepth 100000 in
set_option maxHeartbeats 1000000 in
theorem rmay_1 (op : ByteArray) (c2 : RdIn op ops false) : RdA 13 L (fun x => #[rv K k u m v e x, .string op]) (.int .i64 1) := by
  intro w x hx
  obtain ⟨A, q, rfl, hq1, hq2⟩ := hx.slice
  have hp := Lib.hid (ux_new (K := K) (k := k) (u := u) (m := m) (v := v) (e := e) hx)
  obtain ⟨_, m0, m1, m2, m3, m4, m5, m6⟩ := ux7 hp
  clear hx
  go_enter Tryd.func13, Tryd.ntmps13
  go_wp2_with fail
  clear m0 m1 m2 m3 m4 m5 m6
  refine (rops_mk _).mono ?_
  rintro r w1 ⟨V, rfl, hv, h5⟩
  replace hp := uxstep h5 hp
  have ho := Lib.hid hv
  clear h5 hv
  go_wp2_with fail
  refine RdIn.calls c2 ho.out ?_
  clear ho
  obtain ⟨_, m0, m1, m2, m3, m4, m5, m6⟩ := ux7 hp
  go_wp2_with fail
  clear m0 m1 m2 m3 m4 m5 m6
  go_ret
  exact ⟨rfl, hp.out.hb.since⟩
set_option maxRecDepth 100000 in
theorem rmay_b (op : ByteArray) (hb : bareB u m v e = true) (c2 : RdIn op ops true) : RdA 13 L (fun x => #[rv K k u m v e x, .string op]) (.int .i64 0) := by
  obtain ⟨h1, h2, h3, h4⟩ := bare_T hb
  clear hb
  intro w x hx
  obtain ⟨A, q, rfl, hq1, hq2⟩ := hx.slice
  have hp := Lib.hid (ux_new (K := K) (k := k) (u := u) (m := m) (v := v) (e := e) hx)
  obtain ⟨_, m0, m1, m2, m3, m4, m5, m6⟩ := ux7 hp
  clear hx
  go_enter Tryd.func13, Tryd.ntmps13
  go_wp2_with fail
  clear m0 m1 m2 m3 m4 m5 m6
  refine (rops_mk _).mono ?_
  rintro r w1 ⟨V, rfl, hv, h5⟩
  replace hp := uxstep h5 hp
  have ho := Lib.hid hv
  clear h5 hv
  go_wp2_with fail
  refine RdIn.calls c2 ho.out ?_
  clear ho
  obtain ⟨_, m0, m1, m2, m3, m4, m5, m6⟩ := ux7 hp
  go_wp2_with fail
  clear m0 m1 m2 m3 m4 m5 m6
  go_ret
  exact ⟨rfl, hp.out.hb.since⟩
set_option maxRecDepth 100000 in
set_option maxHeartbeats 2000000 in
theorem rmay_o (op : ByteArray) (hb : bareB u m v e = false) (c2 : RdIn op ops true) (ss : List ByteArray) (c3 : MkOf 9 KT u m v e ss) (B : Bool) (c4 : RdIn op ss B) (E : Int) (hE : E = if B then 0 else 14) : RdA 13 L (fun x => #[rv K k u m v e x, .string op]) (.int .i64 E) := by
  subst hE
  rcases bare_F hb with h1 | ⟨h1, h2⟩ | ⟨h1, h2, h3⟩ | ⟨h1, h2, h3, h4⟩
  all_goals
    clear hb
    intro w x hx
    obtain ⟨A, q, rfl, hq1, hq2⟩ := hx.slice
    have hp := Lib.hid (ux_new (K := K) (k := k) (u := u) (m := m) (v := v) (e := e) hx)
    obtain ⟨_, m0, m1, m2, m3, m4, m5, m6⟩ := ux7 hp
    clear hx
    go_enter Tryd.func13, Tryd.ntmps13
    go_wp2_with fail
    clear m0 m1 m2 m3 m4 m5 m6
    refine (rops_mk _).mono ?_
    rintro r w1 ⟨V, rfl, hv, h5⟩
    replace hp := uxstep h5 hp
    have ho := Lib.hid hv
    clear h5 hv
    go_wp2_with fail
    refine RdIn.calls c2 ho.out ?_
    clear ho
    obtain ⟨_, m0, m1, m2, m3, m4, m5, m6⟩ := ux7 hp
    go_wp2_with fail
    clear m0 m1 m2 m3 m4 m5 m6
    refine (c3 _ trivial).mono ?_
    rintro r w2 ⟨V2, rfl, hv, h5⟩
    replace hp := uxstep h5 hp
    have ho := Lib.hid hv
    clear h5 hv
    go_wp2_with fail
    refine RdIn.calls c4 ho.out ?_
    clear ho
    cases B
    · obtain ⟨_, m0, m1, m2, m3, m4, m5, m6⟩ := ux7 hp
      go_wp2_with fail
      clear m0 m1 m2 m3 m4 m5 m6
      go_ret
      exact ⟨rfl, hp.out.hb.since⟩
    · obtain ⟨_, m0, m1, m2, m3, m4, m5, m6⟩ := ux7 hp
      go_wp2_with fail
      clear m0 m1 m2 m3 m4 m5 m6
      go_ret
      exact ⟨rfl, hp.out.hb.since⟩
theorem rmay_rd (op : ByteArray) : RdA 13 L (fun x => #[rv K k u m v e x, .string op]) (.int .i64 (mayE u m v e op)) := by
  have c2 := in_rd op ops
  unfold mayE
  cases h1 : memB op ops with
  | false => rw [h1] at c2; rw [if_neg (by decide)]; exact rmay_1 K k u m v e L op c2
  | true =>
    rw [h1] at c2
    rw [if_pos rfl]
    cases hb : bareB u m v e with
    | true => rw [if_pos rfl]; exact rmay_b K k u m v e L op hb c2
    | false => rw [if_neg (by decide)]; exact rmay_o K k u m v e L op hb c2 _ (rof_mk u m v e) _ (in_rd op _) _ rfl
end
end Us
end Go.Proofs.YtddlaafpianjbaaDoor

/- Package attr: find, Get. -/
namespace Go.Proofs.YtddlaafpianjbaaDoor
open Go.RowKit
namespace Us
open Att
/-- a number in a box of its own -/
def KN (g : Nat) (t : Int) (w : World) : Prop := w.cell? ⟨g, 0, none⟩ = some (.int .i64 t) ∧ g < w.heap.size
instance (g : Nat) (t : Int) : Kp (KN g t) := ⟨fun h hb => ⟨(hb.cell (p := ⟨g, 0, none⟩) h.2).trans h.1, Nat.lt_of_lt_of_le h.2 hb.size⟩⟩
set_option maxRecDepth 100000 in
theorem get1_k (g : Nat) (t y : Int) (s : ByteArray) (q : Bool) (hq : (y == t) = q) : KMk (KN g t) 37 #[.agg #[.int .i64 y, .string s], .pointer (some ⟨g, 0, none⟩)] (.bool q) := by
  intro w hT
  have m0 : (w.alloc (.cells #[.int .i64 y, .string s] 51)).cell? ⟨g, 0, none⟩ = some (.int .i64 t) := (Kp.keep hT ((Since.refl w).alloc (.cells #[.int .i64 y, .string s] 51))).1
  have HS := Lib.hid ((Since.refl w).alloc (.cells #[.int .i64 y, .string s] 51))
  clear hT
  go_enter Tryd.func37, Tryd.ntmps37
  go_wp2_with fail
  go_ret
  exact ⟨by first | rfl | (rw [← hq]; rfl), HS.out⟩
def idxN (L : List A2) (t : Int) : Nat := L.findIdx (fun p => decide (p.1 = t))
end Us
end Go.Proofs.YtddlaafpianjbaaDoor

/- Package attr: find, Get; usage.Export, Leaves. -/
namespace Go.Proofs.YtddlaafpianjbaaDoor
open Go.RowKit
namespace Us
open Att
def RdG (g : Nat) (t : Int) (L : List A2) (n : Nat) : Prop := ∀ w x, KN g t w → AttsS w x L → Calls Tryd.prog 36 #[x, .func (.func 37) #[] #[.pointer (some ⟨g, 0, none⟩)]] w fun e w' => e = .returned (.int .i64 (n : Int)) ∧ Since w w'
set_option maxRecDepth 100000 in
theorem fnd_nil (g : Nat) (t : Int) : RdG g t [] 0 := by
  intro w x hT hx
  have HS := Lib.hid (Since.refl w)
  obtain ⟨A, c, rfl, _⟩ := hx.empty rfl
  clear hx hT
  go_enter Tryd.func36, Tryd.ntmps36
  go_wp2_with fail
  go_loop [9] (fun i => i = .int .i64 0) (fun i => 0 - (intOf i).toNat)
  case atStart => rfl
  case round =>
    subst hrel
    go_wp2_with fail
    go_ret
    exact ⟨rfl, HS.out⟩
theorem idx_at {L : List A2} {t : Int} {k : Nat} {p : A2} (h : L[k]? = some p) (hn : ∀ q ∈ L.take k, q.1 ≠ t) (hp : p.1 = t) : idxN L t = k := by
  obtain ⟨g1, g2⟩ := List.getElem?_eq_some_iff.1 h
  unfold idxN
  rw [List.findIdx_eq g1]
  refine ⟨by rw [g2]; exact decide_eq_true hp, fun j hj => ?_⟩
  exact decide_eq_false (hn _ (List.mem_take_iff_getElem.2 ⟨j, by omega, rfl⟩))
theorem idx_none {L : List A2} {t : Int} (hn : ∀ q ∈ L, q.1 ≠ t) : idxN L t = L.length := by
  unfold idxN
  exact List.findIdx_eq_length_of_false (fun q hq => decide_eq_false (hn q hq))
set_option maxRecDepth 100000 in
set_option maxHeartbeats 4000000 in
theorem fnd_rd (g : Nat) (t : Int) (L : List A2) : RdG g t L (idxN L t) := by
  by_cases h0 : L.length = 0
  · obtain rfl := List.length_eq_zero_iff.1 h0
    exact fnd_nil g t
  intro w x hT hx
  obtain ⟨b, o, c, rfl, h1, h2, h3, h4⟩ := hx.form (by omega)
  obtain ⟨n, hn⟩ : ∃ n, n = L.length := ⟨_, rfl⟩
  have hle := hx.le
  rw [← hn] at h0 h1 hle ⊢
  have HC := Lib.hid h4
  have HN := Lib.hid hn
  have HT := Lib.hid hT
  have HLT := Lib.hid h3
  clear h4 hx hn hT h3
  go_enter Tryd.func36, Tryd.ntmps36
  go_wp2_with fail
  go_loopw [9] (fun i wr => ∃ k : Nat, k ≤ n ∧ i = .int .i64 (k : Int) ∧ Hid (∀ q ∈ L.take k, q.1 ≠ t) ∧ Hid (KN g t wr) ∧ Hid (Since w wr)) (fun i _ => n - (intOf i).toNat)
  case atStart => exact ⟨0, by omega, rfl, Lib.hid (by simp), HT, Lib.hid (Since.refl w)⟩
  case round =>
    clear HT
    obtain ⟨k, hk, rfl, HA, HT, HS⟩ := hrel
    by_cases hlt : k < n
    · obtain ⟨⟨y, s⟩, hs⟩ : ∃ s, L[k]? = some s := ⟨L[k]'(by rw [← HN.out]; exact hlt), List.getElem?_eq_getElem _⟩
      obtain ⟨m0, m1⟩ := HC.out k _ hs
      replace m0 : wr.cell? ⟨b, o + k * 2, none⟩ = some (.int .i64 y) := (Below.cell HS.out (p := ⟨b, o + k * 2, none⟩) HLT.out).trans m0
      replace m1 : wr.cell? ⟨b, o + k * 2 + 1, none⟩ = some (.string s) := (Below.cell HS.out (p := ⟨b, o + k * 2 + 1, none⟩) HLT.out).trans m1
      have i1 : (0 : Int) ≤ (k : Int) := by omega
      have i2 : (k : Int) < (n : Int) := by omega
      have HT2 := Lib.hid (Kp.keep HT.out ((Since.refl wr).alloc (.cells #[.int .i64 y, .string s] 51)))
      have HS2 := Lib.hid (HS.out.alloc (.cells #[.int .i64 y, .string s] 51))
      by_cases hz : y = t
      · have c1 := get1_k g t y s true (beq_iff_eq.2 hz)
        have HG := Lib.hid (idx_at hs HA.out hz)
        clear hs hz HT HS
        go_wp2_with fail
        refine c1.calls0 HT2.out ?_
        intro wy hy
        have HS3 := Lib.hid (HS2.out.step hy)
        clear hy m0 m1
        go_wp2_with fail
        go_ret
        exact ⟨by rw [HG.out]; rfl, HS3.out⟩
      · have c1 := get1_k g t y s false (beq_eq_false_iff_ne.2 hz)
        obtain ⟨g1, g2⟩ := List.getElem?_eq_some_iff.1 hs
        have HA2 := Lib.hid (show ∀ q ∈ L.take (k + 1), q.1 ≠ t by
          rw [List.take_succ_eq_append_getElem g1, g2]
          intro q hq
          rw [List.mem_append, List.mem_singleton] at hq
          rcases hq with hq | rfl
          · exact HA.out q hq
          · exact hz)
        clear hs hz g1 g2 HT HS
        go_wp2_with fail
        refine c1.calls0 HT2.out ?_
        intro wy hy
        have HT3 := Lib.hid (Kp.keep HT2.out hy)
        have HS3 := Lib.hid (HS2.out.step hy)
        clear hy m0 m1
        go_wp2_with fail
        go_roundw
        case rel => exact ⟨k + 1, by omega, by go_num, HA2, HT3, HS3⟩
        case measure => simp [intOf]; omega
    · obtain rfl : n = k := by omega
      have HG := Lib.hid (idx_none (L := L) (t := t) (by have h9 := HA.out; rw [HN.out, List.take_length] at h9; exact h9))
      go_wp2_with fail
      go_ret
      exact ⟨by rw [HG.out, ← HN.out]; rfl, HS.out⟩
theorem getP_idx (L : List A2) (t : Int) (h : idxN L t < L.length) : ∃ p, L[idxN L t]? = some p ∧ getP L t = some p := by
  refine ⟨L[idxN L t], List.getElem?_eq_getElem h, ?_⟩
  unfold getP idxN at *
  exact List.find?_eq_some_iff_getElem.2 ⟨by have := List.findIdx_getElem (w := h); exact this, _, h, rfl, fun j hj => by simpa using List.not_of_lt_findIdx hj⟩
theorem getP_no (L : List A2) (t : Int) (h : ¬ idxN L t < L.length) : getP L t = none := by
  unfold getP idxN at *
  refine List.find?_eq_none.2 fun q hq hd => h ?_
  exact List.findIdx_lt_length_of_exists ⟨q, hq, hd⟩
set_option maxRecDepth 100000 in
set_option maxHeartbeats 2000000 in
theorem get_rd (L : List A2) (t : Int) : RdA 29 L (fun x => #[x, .int .i64 t]) (getV L t) := by
  intro w x hx
  have hle := hx.le
  have c1 := fnd_rd w.heap.size t L
  have hT := Lib.hid (show KN w.heap.size t (w.alloc (.cells #[.int .i64 t] 3)) from ⟨(World.cell?_alloc_new _ _ _ _).trans rfl, by simp⟩)
  have HS := Lib.hid ((Since.refl w).alloc (.cells #[.int .i64 t] 3))
  have HX := Lib.hid (hx.since ((Since.refl w).alloc (.cells #[.int .i64 t] 3)))
  by_cases h : idxN L t < L.length
  · obtain ⟨p, hp1, hp2⟩ := getP_idx L t h
    obtain ⟨b, o, c, rfl, h1, h2, h3, h4⟩ := hx.form (by omega)
    obtain ⟨-, m1⟩ := h4 _ _ hp1
    have HG := Lib.hid hp2
    have HLT := Lib.hid h3
    obtain ⟨k, hk⟩ : ∃ k, k = idxN L t := ⟨_, rfl⟩
    obtain ⟨n, hn⟩ : ∃ n, n = L.length := ⟨_, rfl⟩
    rw [← hk] at c1 h m1
    rw [← hn] at h1 h hle HX ⊢
    have HM := Lib.hid m1
    have i1 : (0 : Int) ≤ (k : Int) := by omega
    have i2 : (k : Int) < (n : Int) := by omega
    have t1 : ((k : Int) == (n : Int)) = false := beq_eq_false_iff_ne.2 (by omega)
    clear hp1 hp2 h4 m1 h3 hx hk hn
    go_enter Tryd.func29, Tryd.ntmps29
    go_wp2_with fail
    refine (c1 _ _ hT.out HX.out).mono ?_
    rintro r w1 ⟨rfl, h5⟩
    replace HS := Lib.hid (HS.out.step h5)
    have m1 : w1.cell? ⟨b, o + k * 2 + 1, none⟩ = some (.string p.2) := (Below.cell HS.out (p := ⟨b, o + k * 2 + 1, none⟩) HLT.out).trans HM.out
    clear h5
    go_wp2_with fail
    go_ret2
    exact ⟨by unfold getV getS getB; rw [HG.out]; rfl, HS.out⟩
  · have HG := Lib.hid (getP_no L t h)
    have hk : idxN L t = L.length := by
      have := List.findIdx_le_length (xs := L) (p := fun p => decide (p.1 = t))
      unfold idxN at h ⊢; omega
    rw [hk] at c1
    obtain ⟨A, c, rfl, hc1, hc2⟩ := hx.slice
    obtain ⟨n, hn⟩ : ∃ n, n = L.length := ⟨_, rfl⟩
    rw [← hn] at c1 hle HX hc1 ⊢
    have t1 : ((n : Int) == (n : Int)) = true := beq_self_eq_true _
    clear hx hk h hn
    go_enter Tryd.func29, Tryd.ntmps29
    go_wp2_with fail
    refine (c1 _ _ hT.out HX.out).mono ?_
    rintro r w1 ⟨rfl, h5⟩
    replace HS := Lib.hid (HS.out.step h5)
    clear h5
    go_wp2_with fail
    go_ret2
    exact ⟨by unfold getV getS getB; rw [HG.out]; rfl, HS.out⟩
end Us
end Go.Proofs.YtddlaafpianjbaaDoor

/- usage.Export, usage.Leaves, granted, ofKey. -/
namespace Go.Proofs.YtddlaafpianjbaaDoor
open Go.RowKit
namespace Us
open Att
section
variable (K : Int) (k u m v e : ByteArray) (L : List A2)
set_option maxRecDepth 100000 in
theorem exp_no (c0 : RdA 27 L (fun x => #[rv K k u m v e x]) (.bool false)) : RdA 14 L (fun x => #[rv K k u m v e x]) (.string e) := by
  intro w x hx
  obtain ⟨A, q, rfl, hq1, hq2⟩ := hx.slice
  have hp := Lib.hid (ux_new (K := K) (k := k) (u := u) (m := m) (v := v) (e := e) hx)
  obtain ⟨_, m0, m1, m2, m3, m4, m5, m6⟩ := ux7 hp
  clear hx
  go_enter Tryd.func14, Tryd.ntmps14
  go_wp2_with fail
  clear m0 m1 m2 m3 m4 m5 m6
  refine (c0.calls0 hp.out.atts) ?_
  intro w1 h1
  replace hp := uxstep (by first | exact h1 | exact (Since.alloc (Since.refl _) _).step h1) hp
  clear h1
  obtain ⟨_, m0, m1, m2, m3, m4, m5, m6⟩ := ux7 hp
  go_wp2_with fail
  clear m0 m1 m2 m3 m4 m5 m6
  go_ret
  exact ⟨rfl, hp.out.hb.since⟩
set_option maxRecDepth 100000 in
theorem exp_6 (c0 : RdA 27 L (fun x => #[rv K k u m v e x]) (.bool true)) (F : ByteArray) (B : Bool) (hF : F.size = 6) (c1 : RdA 29 L (fun x => #[x, .int .i64 65535]) (.tuple #[.string F, .bool B])) : RdA 14 L (fun x => #[rv K k u m v e x]) (.string (F.extract 5 6)) := by
  have t1 : ((F.size : Int) == 6) = true := by rw [hF]; rfl
  have i1 : (5 : Int) ≤ (F.size : Int) := by omega
  intro w x hx
  obtain ⟨A, q, rfl, hq1, hq2⟩ := hx.slice
  have hp := Lib.hid (ux_new (K := K) (k := k) (u := u) (m := m) (v := v) (e := e) hx)
  obtain ⟨_, m0, m1, m2, m3, m4, m5, m6⟩ := ux7 hp
  clear hx
  go_enter Tryd.func14, Tryd.ntmps14
  go_wp2_with fail
  clear m0 m1 m2 m3 m4 m5 m6
  refine (c0.calls0 hp.out.atts) ?_
  intro w1 h1
  replace hp := uxstep (by first | exact h1 | exact (Since.alloc (Since.refl _) _).step h1) hp
  clear h1
  obtain ⟨_, m0, m1, m2, m3, m4, m5, m6⟩ := ux7 hp
  go_wp2_with fail
  clear m0 m1 m2 m3 m4 m5 m6
  refine (c1.calls0 hp.out.atts) ?_
  intro w2 h2
  replace hp := uxstep (by first | exact h2 | exact (Since.alloc (Since.refl _) _).step h2) hp
  clear h2
  obtain ⟨_, m0, m1, m2, m3, m4, m5, m6⟩ := ux7 hp
  go_wp2_with fail
  clear m0 m1 m2 m3 m4 m5 m6
  go_ret
  exact ⟨by rw [← hF]; rfl, hp.out.hb.since⟩
set_option maxRecDepth 100000 in
theorem exp_1 (c0 : RdA 27 L (fun x => #[rv K k u m v e x]) (.bool true)) (F G : ByteArray) (B C : Bool) (hF : F.size ≠ 6) (c1 : RdA 29 L (fun x => #[x, .int .i64 65535]) (.tuple #[.string F, .bool B])) (c2 : RdA 29 L (fun x => #[x, .int .i64 1]) (.tuple #[.string G, .bool C])) : RdA 14 L (fun x => #[rv K k u m v e x]) (.string G) := by
  have t1 : ((F.size : Int) == 6) = false := beq_eq_false_iff_ne.2 (by omega)
  clear hF
  intro w x hx
  obtain ⟨A, q, rfl, hq1, hq2⟩ := hx.slice
  have hp := Lib.hid (ux_new (K := K) (k := k) (u := u) (m := m) (v := v) (e := e) hx)
  obtain ⟨_, m0, m1, m2, m3, m4, m5, m6⟩ := ux7 hp
  clear hx
  go_enter Tryd.func14, Tryd.ntmps14
  go_wp2_with fail
  clear m0 m1 m2 m3 m4 m5 m6
  refine (c0.calls0 hp.out.atts) ?_
  intro w1 h1
  replace hp := uxstep (by first | exact h1 | exact (Since.alloc (Since.refl _) _).step h1) hp
  clear h1
  obtain ⟨_, m0, m1, m2, m3, m4, m5, m6⟩ := ux7 hp
  go_wp2_with fail
  clear m0 m1 m2 m3 m4 m5 m6
  refine (c1.calls0 hp.out.atts) ?_
  intro w2 h2
  replace hp := uxstep (by first | exact h2 | exact (Since.alloc (Since.refl _) _).step h2) hp
  clear h2
  obtain ⟨_, m0, m1, m2, m3, m4, m5, m6⟩ := ux7 hp
  go_wp2_with fail
  clear m0 m1 m2 m3 m4 m5 m6
  refine (c2.calls0 hp.out.atts) ?_
  intro w3 h3
  replace hp := uxstep (by first | exact h3 | exact (Since.alloc (Since.refl _) _).step h3) hp
  clear h3
  obtain ⟨_, m0, m1, m2, m3, m4, m5, m6⟩ := ux7 hp
  go_wp2_with fail
  clear m0 m1 m2 m3 m4 m5 m6
  go_ret
  exact ⟨rfl, hp.out.hb.since⟩
theorem exp_rd : RdA 14 L (fun x => #[rv K k u m v e x]) (.string (expV u m v e L)) := by
  have c0 := bare_rd K k u m v e L
  unfold expV
  cases hb : bareB u m v e with
  | false => rw [hb] at c0; rw [if_neg (by decide)]; exact exp_no K k u m v e L c0
  | true =>
    rw [hb] at c0
    rw [if_pos rfl]
    by_cases hF : (getS L 65535).size = 6
    · rw [if_pos hF]; exact exp_6 K k u m v e L c0 _ _ hF (get_rd L 65535)
    · rw [if_neg hF]; exact exp_1 K k u m v e L c0 _ _ _ _ hF (get_rd L 65535) (get_rd L 1)
set_option maxRecDepth 100000 in
theorem lea_n (X : ByteArray) (tr : Bool) (t1 : (X.toList == [78]) = true) (c1 : RdA 14 L (fun x => #[rv K k u m v e x]) (.string X)) : RdA 16 L (fun x => #[rv K k u m v e x, .bool tr]) (.int .i64 14) := by
  intro w x hx
  obtain ⟨A, q, rfl, hq1, hq2⟩ := hx.slice
  have hp := Lib.hid (ux_new (K := K) (k := k) (u := u) (m := m) (v := v) (e := e) hx)
  obtain ⟨_, m0, m1, m2, m3, m4, m5, m6⟩ := ux7 hp
  clear hx
  go_enter Tryd.func16, Tryd.ntmps16
  go_wp2_with fail
  clear m0 m1 m2 m3 m4 m5 m6
  refine (c1.calls0 hp.out.atts) ?_
  intro w1 h1
  replace hp := uxstep (by first | exact h1 | exact (Since.alloc (Since.refl _) _).step h1) hp
  clear h1
  obtain ⟨_, m0, m1, m2, m3, m4, m5, m6⟩ := ux7 hp
  go_wp2_with fail
  clear m0 m1 m2 m3 m4 m5 m6
  go_ret
  exact ⟨rfl, hp.out.hb.since⟩
set_option maxRecDepth 100000 in
theorem lea_o (X : ByteArray) (tr : Bool) (t1 : (X.toList == [78]) = false) (t2 : (X.toList == [69]) = false) (c1 : RdA 14 L (fun x => #[rv K k u m v e x]) (.string X)) : RdA 16 L (fun x => #[rv K k u m v e x, .bool tr]) (.int .i64 0) := by
  intro w x hx
  obtain ⟨A, q, rfl, hq1, hq2⟩ := hx.slice
  have hp := Lib.hid (ux_new (K := K) (k := k) (u := u) (m := m) (v := v) (e := e) hx)
  obtain ⟨_, m0, m1, m2, m3, m4, m5, m6⟩ := ux7 hp
  clear hx
  go_enter Tryd.func16, Tryd.ntmps16
  go_wp2_with fail
  clear m0 m1 m2 m3 m4 m5 m6
  refine (c1.calls0 hp.out.atts) ?_
  intro w1 h1
  replace hp := uxstep (by first | exact h1 | exact (Since.alloc (Since.refl _) _).step h1) hp
  clear h1
  obtain ⟨_, m0, m1, m2, m3, m4, m5, m6⟩ := ux7 hp
  go_wp2_with fail
  clear m0 m1 m2 m3 m4 m5 m6
  go_ret
  exact ⟨rfl, hp.out.hb.since⟩
set_option maxRecDepth 100000 in
theorem lea_t (X : ByteArray) (t1 : (X.toList == [78]) = false) (t2 : (X.toList == [69]) = true) (c1 : RdA 14 L (fun x => #[rv K k u m v e x]) (.string X)) : RdA 16 L (fun x => #[rv K k u m v e x, .bool true]) (.int .i64 0) := by
  intro w x hx
  obtain ⟨A, q, rfl, hq1, hq2⟩ := hx.slice
  have hp := Lib.hid (ux_new (K := K) (k := k) (u := u) (m := m) (v := v) (e := e) hx)
  obtain ⟨_, m0, m1, m2, m3, m4, m5, m6⟩ := ux7 hp
  clear hx
  go_enter Tryd.func16, Tryd.ntmps16
  go_wp2_with fail
  clear m0 m1 m2 m3 m4 m5 m6
  refine (c1.calls0 hp.out.atts) ?_
  intro w1 h1
  replace hp := uxstep (by first | exact h1 | exact (Since.alloc (Since.refl _) _).step h1) hp
  clear h1
  obtain ⟨_, m0, m1, m2, m3, m4, m5, m6⟩ := ux7 hp
  go_wp2_with fail
  clear m0 m1 m2 m3 m4 m5 m6
  go_ret
  exact ⟨rfl, hp.out.hb.since⟩
set_option maxRecDepth 100000 in
theorem lea_f (X : ByteArray) (t1 : (X.toList == [78]) = false) (t2 : (X.toList == [69]) = true) (c1 : RdA 14 L (fun x => #[rv K k u m v e x]) (.string X)) : RdA 16 L (fun x => #[rv K k u m v e x, .bool false]) (.int .i64 14) := by
  intro w x hx
  obtain ⟨A, q, rfl, hq1, hq2⟩ := hx.slice
  have hp := Lib.hid (ux_new (K := K) (k := k) (u := u) (m := m) (v := v) (e := e) hx)
  obtain ⟨_, m0, m1, m2, m3, m4, m5, m6⟩ := ux7 hp
  clear hx
  go_enter Tryd.func16, Tryd.ntmps16
  go_wp2_with fail
  clear m0 m1 m2 m3 m4 m5 m6
  refine (c1.calls0 hp.out.atts) ?_
  intro w1 h1
  replace hp := uxstep (by first | exact h1 | exact (Since.alloc (Since.refl _) _).step h1) hp
  clear h1
  obtain ⟨_, m0, m1, m2, m3, m4, m5, m6⟩ := ux7 hp
  go_wp2_with fail
  clear m0 m1 m2 m3 m4 m5 m6
  go_ret
  exact ⟨rfl, hp.out.hb.since⟩
theorem lea_rd (tr : Bool) : RdA 16 L (fun x => #[rv K k u m v e x, .bool tr]) (.int .i64 (leaE (expV u m v e L) tr)) := by
  have c1 := exp_rd K k u m v e L
  unfold leaE
  by_cases h1 : expV u m v e L = ⟨#[78]⟩
  · rw [if_pos h1]; exact lea_n K k u m v e L _ tr (lT h1) c1
  · rw [if_neg h1]
    by_cases h2 : expV u m v e L = ⟨#[69]⟩
    · rw [if_pos h2]
      cases tr
      · exact lea_f K k u m v e L _ (lF h1) (lT h2) c1
      · exact lea_t K k u m v e L _ (lF h1) (lT h2) c1
    · rw [if_neg h2]; exact lea_o K k u m v e L _ tr (lF h1) (lF h2) c1
end
def keyOp (op : ByteArray) : ByteArray := if op = ⟨#[101, 110, 99, 114, 121, 112, 116]⟩ then ⟨#[119, 114, 97, 112]⟩ else if op = ⟨#[100, 101, 99, 114, 121, 112, 116]⟩ then ⟨#[117, 110, 119, 114, 97, 112]⟩ else op
set_option maxRecDepth 100000 in
theorem key_e : Ret 23 #[.string ⟨#[101, 110, 99, 114, 121, 112, 116]⟩] (.string ⟨#[119, 114, 97, 112]⟩) := by
  intro w
  go_enter Tryd.func23, Tryd.ntmps23
  go_wp2_with fail
  go_ret
  exact ⟨rfl, rfl⟩
set_option maxRecDepth 100000 in
theorem key_d : Ret 23 #[.string ⟨#[100, 101, 99, 114, 121, 112, 116]⟩] (.string ⟨#[117, 110, 119, 114, 97, 112]⟩) := by
  intro w
  go_enter Tryd.func23, Tryd.ntmps23
  go_wp2_with fail
  go_ret
  exact ⟨rfl, rfl⟩
set_option maxRecDepth 100000 in
theorem key_o (op : ByteArray) (t1 : (op.toList == [101, 110, 99, 114, 121, 112, 116]) = false) (t2 : (op.toList == [100, 101, 99, 114, 121, 112, 116]) = false) : Ret 23 #[.string op] (.string op) := by
  intro w
  go_enter Tryd.func23, Tryd.ntmps23
  go_wp2_with fail
  go_ret
  exact ⟨rfl, rfl⟩
theorem key_ret (op : ByteArray) : Ret 23 #[.string op] (.string (keyOp op)) := by
  unfold keyOp
  by_cases h1 : op = ⟨#[101, 110, 99, 114, 121, 112, 116]⟩
  · rw [if_pos h1, h1]; exact key_e
  · rw [if_neg h1]
    by_cases h2 : op = ⟨#[100, 101, 99, 114, 121, 112, 116]⟩
    · rw [if_pos h2, h2]; exact key_d
    · rw [if_neg h2]; exact key_o op (lF h1) (lF h2)
def grL (c : Int) : List ByteArray :=
  if c = 69 then [⟨#[101, 110, 99, 114, 121, 112, 116]⟩]
  else if c = 68 then [⟨#[100, 101, 99, 114, 121, 112, 116]⟩]
  else if c = 66 then [⟨#[101, 110, 99, 114, 121, 112, 116]⟩, ⟨#[100, 101, 99, 114, 121, 112, 116]⟩]
  else if c = 71 then [⟨#[103, 101, 110, 101, 114, 97, 116, 101]⟩]
  else if c = 86 then [⟨#[118, 101, 114, 105, 102, 121]⟩]
  else if c = 67 then [⟨#[103, 101, 110, 101, 114, 97, 116, 101]⟩, ⟨#[118, 101, 114, 105, 102, 121]⟩]
  else if c = 83 then [⟨#[115, 105, 103, 110]⟩]
  else if c = 84 then [⟨#[100, 101, 99, 114, 121, 112, 116]⟩, ⟨#[115, 105, 103, 110]⟩]
  else if c = 88 then [⟨#[100, 101, 114, 105, 118, 101]⟩]
  else []
set_option maxRecDepth 100000 in
theorem gr_E : MkS 22 #[.int .i32 69] [⟨#[101, 110, 99, 114, 121, 112, 116]⟩] := by
  intro w
  go_enter Tryd.func22, Tryd.ntmps22
  go_wp2_with fail
  go_ret
  exact ⟨_, rfl, (show StrsS (w.alloc (.cells #[.string ⟨#[101, 110, 99, 114, 121, 112, 116]⟩] 9)) (.slice (some ⟨w.heap.size, 0, none⟩) 1 1) [⟨#[101, 110, 99, 114, 121, 112, 116]⟩] from SlR.lit w 1 1 [.string ⟨#[101, 110, 99, 114, 121, 112, 116]⟩] rfl (by decide) #[.string ⟨#[101, 110, 99, 114, 121, 112, 116]⟩] rfl 9), (Since.refl w).alloc _⟩
set_option maxRecDepth 100000 in
theorem gr_D : MkS 22 #[.int .i32 68] [⟨#[100, 101, 99, 114, 121, 112, 116]⟩] := by
  intro w
  go_enter Tryd.func22, Tryd.ntmps22
  go_wp2_with fail
  go_ret
  exact ⟨_, rfl, (show StrsS (w.alloc (.cells #[.string ⟨#[100, 101, 99, 114, 121, 112, 116]⟩] 9)) (.slice (some ⟨w.heap.size, 0, none⟩) 1 1) [⟨#[100, 101, 99, 114, 121, 112, 116]⟩] from SlR.lit w 1 1 [.string ⟨#[100, 101, 99, 114, 121, 112, 116]⟩] rfl (by decide) #[.string ⟨#[100, 101, 99, 114, 121, 112, 116]⟩] rfl 9), (Since.refl w).alloc _⟩
set_option maxRecDepth 100000 in
theorem gr_B : MkS 22 #[.int .i32 66] [⟨#[101, 110, 99, 114, 121, 112, 116]⟩, ⟨#[100, 101, 99, 114, 121, 112, 116]⟩] := by
  intro w
  go_enter Tryd.func22, Tryd.ntmps22
  go_wp2_with fail
  go_ret
  exact ⟨_, rfl, (show StrsS (w.alloc (.cells #[.string ⟨#[101, 110, 99, 114, 121, 112, 116]⟩, .string ⟨#[100, 101, 99, 114, 121, 112, 116]⟩] 9)) (.slice (some ⟨w.heap.size, 0, none⟩) 2 2) [⟨#[101, 110, 99, 114, 121, 112, 116]⟩, ⟨#[100, 101, 99, 114, 121, 112, 116]⟩] from SlR.lit w 1 2 [.string ⟨#[101, 110, 99, 114, 121, 112, 116]⟩, .string ⟨#[100, 101, 99, 114, 121, 112, 116]⟩] rfl (by decide) #[.string ⟨#[101, 110, 99, 114, 121, 112, 116]⟩, .string ⟨#[100, 101, 99, 114, 121, 112, 116]⟩] rfl 9), (Since.refl w).alloc _⟩
set_option maxRecDepth 100000 in
theorem gr_G : MkS 22 #[.int .i32 71] [⟨#[103, 101, 110, 101, 114, 97, 116, 101]⟩] := by
  intro w
  go_enter Tryd.func22, Tryd.ntmps22
  go_wp2_with fail
  go_ret
  exact ⟨_, rfl, (show StrsS (w.alloc (.cells #[.string ⟨#[103, 101, 110, 101, 114, 97, 116, 101]⟩] 9)) (.slice (some ⟨w.heap.size, 0, none⟩) 1 1) [⟨#[103, 101, 110, 101, 114, 97, 116, 101]⟩] from SlR.lit w 1 1 [.string ⟨#[103, 101, 110, 101, 114, 97, 116, 101]⟩] rfl (by decide) #[.string ⟨#[103, 101, 110, 101, 114, 97, 116, 101]⟩] rfl 9), (Since.refl w).alloc _⟩
set_option maxRecDepth 100000 in
theorem gr_V : MkS 22 #[.int .i32 86] [⟨#[118, 101, 114, 105, 102, 121]⟩] := by
  intro w
  go_enter Tryd.func22, Tryd.ntmps22
  go_wp2_with fail
  go_ret
  exact ⟨_, rfl, (show StrsS (w.alloc (.cells #[.string ⟨#[118, 101, 114, 105, 102, 121]⟩] 9)) (.slice (some ⟨w.heap.size, 0, none⟩) 1 1) [⟨#[118, 101, 114, 105, 102, 121]⟩] from SlR.lit w 1 1 [.string ⟨#[118, 101, 114, 105, 102, 121]⟩] rfl (by decide) #[.string ⟨#[118, 101, 114, 105, 102, 121]⟩] rfl 9), (Since.refl w).alloc _⟩
set_option maxRecDepth 100000 in
theorem gr_C : MkS 22 #[.int .i32 67] [⟨#[103, 101, 110, 101, 114, 97, 116, 101]⟩, ⟨#[118, 101, 114, 105, 102, 121]⟩] := by
  intro w
  go_enter Tryd.func22, Tryd.ntmps22
  go_wp2_with fail
  go_ret
  exact ⟨_, rfl, (show StrsS (w.alloc (.cells #[.string ⟨#[103, 101, 110, 101, 114, 97, 116, 101]⟩, .string ⟨#[118, 101, 114, 105, 102, 121]⟩] 9)) (.slice (some ⟨w.heap.size, 0, none⟩) 2 2) [⟨#[103, 101, 110, 101, 114, 97, 116, 101]⟩, ⟨#[118, 101, 114, 105, 102, 121]⟩] from SlR.lit w 1 2 [.string ⟨#[103, 101, 110, 101, 114, 97, 116, 101]⟩, .string ⟨#[118, 101, 114, 105, 102, 121]⟩] rfl (by decide) #[.string ⟨#[103, 101, 110, 101, 114, 97, 116, 101]⟩, .string ⟨#[118, 101, 114, 105, 102, 121]⟩] rfl 9), (Since.refl w).alloc _⟩
set_option maxRecDepth 100000 in
theorem gr_S : MkS 22 #[.int .i32 83] [⟨#[115, 105, 103, 110]⟩] := by
  intro w
  go_enter Tryd.func22, Tryd.ntmps22
  go_wp2_with fail
  go_ret
  exact ⟨_, rfl, (show StrsS (w.alloc (.cells #[.string ⟨#[115, 105, 103, 110]⟩] 9)) (.slice (some ⟨w.heap.size, 0, none⟩) 1 1) [⟨#[115, 105, 103, 110]⟩] from SlR.lit w 1 1 [.string ⟨#[115, 105, 103, 110]⟩] rfl (by decide) #[.string ⟨#[115, 105, 103, 110]⟩] rfl 9), (Since.refl w).alloc _⟩
set_option maxRecDepth 100000 in
theorem gr_T : MkS 22 #[.int .i32 84] [⟨#[100, 101, 99, 114, 121, 112, 116]⟩, ⟨#[115, 105, 103, 110]⟩] := by
  intro w
  go_enter Tryd.func22, Tryd.ntmps22
  go_wp2_with fail
  go_ret
  exact ⟨_, rfl, (show StrsS (w.alloc (.cells #[.string ⟨#[100, 101, 99, 114, 121, 112, 116]⟩, .string ⟨#[115, 105, 103, 110]⟩] 9)) (.slice (some ⟨w.heap.size, 0, none⟩) 2 2) [⟨#[100, 101, 99, 114, 121, 112, 116]⟩, ⟨#[115, 105, 103, 110]⟩] from SlR.lit w 1 2 [.string ⟨#[100, 101, 99, 114, 121, 112, 116]⟩, .string ⟨#[115, 105, 103, 110]⟩] rfl (by decide) #[.string ⟨#[100, 101, 99, 114, 121, 112, 116]⟩, .string ⟨#[115, 105, 103, 110]⟩] rfl 9), (Since.refl w).alloc _⟩
set_option maxRecDepth 100000 in
theorem gr_X : MkS 22 #[.int .i32 88] [⟨#[100, 101, 114, 105, 118, 101]⟩] := by
  intro w
  go_enter Tryd.func22, Tryd.ntmps22
  go_wp2_with fail
  go_ret
  exact ⟨_, rfl, (show StrsS (w.alloc (.cells #[.string ⟨#[100, 101, 114, 105, 118, 101]⟩] 9)) (.slice (some ⟨w.heap.size, 0, none⟩) 1 1) [⟨#[100, 101, 114, 105, 118, 101]⟩] from SlR.lit w 1 1 [.string ⟨#[100, 101, 114, 105, 118, 101]⟩] rfl (by decide) #[.string ⟨#[100, 101, 114, 105, 118, 101]⟩] rfl 9), (Since.refl w).alloc _⟩
set_option maxRecDepth 100000 in
theorem gr_no (c : Int) (t0 : (c == 69) = false) (t1 : (c == 68) = false) (t2 : (c == 66) = false) (t3 : (c == 71) = false) (t4 : (c == 86) = false) (t5 : (c == 67) = false) (t6 : (c == 83) = false) (t7 : (c == 84) = false) (t8 : (c == 88) = false) : MkS 22 #[.int .i32 c] [] := by
  intro w
  go_enter Tryd.func22, Tryd.ntmps22
  go_wp2_with fail
  go_ret
  exact ⟨_, rfl, StrsS.nil w, Since.refl w⟩
theorem gr_mk (c : Int) : MkS 22 #[.int .i32 c] (grL c) := by
  unfold grL
  by_cases h0 : c = 69
  · rw [if_pos h0, h0]; exact gr_E
  rw [if_neg h0]
  by_cases h1 : c = 68
  · rw [if_pos h1, h1]; exact gr_D
  rw [if_neg h1]
  by_cases h2 : c = 66
  · rw [if_pos h2, h2]; exact gr_B
  rw [if_neg h2]
  by_cases h3 : c = 71
  · rw [if_pos h3, h3]; exact gr_G
  rw [if_neg h3]
  by_cases h4 : c = 86
  · rw [if_pos h4, h4]; exact gr_V
  rw [if_neg h4]
  by_cases h5 : c = 67
  · rw [if_pos h5, h5]; exact gr_C
  rw [if_neg h5]
  by_cases h6 : c = 83
  · rw [if_pos h6, h6]; exact gr_S
  rw [if_neg h6]
  by_cases h7 : c = 84
  · rw [if_pos h7, h7]; exact gr_T
  rw [if_neg h7]
  by_cases h8 : c = 88
  · rw [if_pos h8, h8]; exact gr_X
  rw [if_neg h8]
  exact gr_no c (beq_eq_false_iff_ne.2 h0) (beq_eq_false_iff_ne.2 h1) (beq_eq_false_iff_ne.2 h2) (beq_eq_false_iff_ne.2 h3) (beq_eq_false_iff_ne.2 h4) (beq_eq_false_iff_ne.2 h5) (beq_eq_false_iff_ne.2 h6) (beq_eq_false_iff_ne.2 h7) (beq_eq_false_iff_ne.2 h8)
end Us
end Go.Proofs.YtddlaafpianjbaaDoor
