/- Joined texts. -/
-- PACK: YtddlaafpianjbaaGreatDoorKind3 YtddlaafpianjbaaGreatDoorRefKind YtddlaafpianjbaaGreatDoorKindChk YtddlaafpianjbaaGreatDoorLoad YtddlaafpianjbaaGreatDoorLoad2 YtddlaafpianjbaaGreatDoorLoad3 YtddlaafpianjbaaGreatDoorLoad4 YtddlaafpianjbaaGreatDoorLoad5
import Derived.Test.YtddlaafpianjbaaGreatDoorBb37
import Derived.RangeFuncBox
import Derived.Test.YtddlaafpianjbaaGreatDoorBb32
import Derived.Test.YtddlaafpianjbaaGreatDoorBb17
import Derived.Deep.QuietTactic
import Derived.BigQuiet
import Derived.IntWalk

/- Package kind: By, Of and Check; the reference. -/
namespace Go.Proofs.YtddlaafpianjbaaGreatDoor
open Go.RowKit
namespace Kind
open Curve (KMkI KS KI)
def KBy (b b1 b2 : Nat) (s : ByteArray) (cu si : Int) : World → Prop := fun w => Tabs w ∧ KS b s w ∧ KI b1 cu w ∧ KI b2 si w
instance (b b1 b2 : Nat) (s : ByteArray) (cu si : Int) : Kp (KBy b b1 b2 s cu si) := ⟨fun h hb => ⟨Kp.keep h.1 hb, Kp.keep h.2.1 hb, Kp.keep h.2.2.1 hb, Kp.keep h.2.2.2 hb⟩⟩
def KOf (b b1 : Nat) (s : ByteArray) (si : Int) : World → Prop := fun w => Tabs w ∧ KS b s w ∧ KI b1 si w
instance (b b1 : Nat) (s : ByteArray) (si : Int) : Kp (KOf b b1 s si) := ⟨fun h hb => ⟨Kp.keep h.1 hb, Kp.keep h.2.1 hb, Kp.keep h.2.2 hb⟩⟩
set_option maxRecDepth 100000 in
theorem of1_mk (b b1 : Nat) (s : ByteArray) (si : Int) (x y z : ByteArray) (n c : Int) (u1 u2 : Bool) (h1 : (y.toList == s.toList) = u1) (h2 : (n == si) = u2) : KMk (KOf b b1 s si) 123 #[.agg #[.string x, .int .i64 n, .string y, .int .i64 c, .string z], .pointer (some ⟨b, 0, none⟩), .pointer (some ⟨b1, 0, none⟩)] (.bool (u1 && u2)) := by
  intro w hT
  have m0 : w.cell? ⟨b, 0, none⟩ = some (.string s) := hT.2.1
  have m1 : w.cell? ⟨b1, 0, none⟩ = some (.int .i64 si) := hT.2.2
  have hl0 := block_lt_of_cell m0
  have hl1 := block_lt_of_cell m1
  clear hT
  cases u1
  all_goals cases u2
  all_goals
    go_enter Tryz.func123, Tryz.ntmps123
    go_wp2_with fail
    go_ret
    exact ⟨rfl, Since.alloc (Since.refl w) _⟩
def takes (s : List UInt8) (cu si : Int) (r : Row) : Bool := (r.2.2.2.2 == s) && (r.2.2.2.1 == cu) && (r.2.1 == si)
def wants (s : List UInt8) (si : Int) (r : Row) : Bool := (r.2.2.1 == s) && (r.2.1 == si)
set_option maxRecDepth 100000 in
theorem of_k (s : ByteArray) (si n : Int) (q : Bool) (hn : fndL (wants s.data.toList si) rows 0 = (n, q)) : KMk Tabs 76 #[.string s, .int .i64 si] (.tuple #[.int .i64 n, .bool q]) := by
  intro w hT
  have HS := Lib.hid (Since.refl w)
  obtain ⟨W1, hW1⟩ : ∃ W1, W1 = w.alloc (.cells #[.string s] 9) := ⟨_, rfl⟩
  have hs1 : Since w W1 := by rw [hW1]; exact Since.alloc (Since.refl w) _
  have hk1 : KS w.heap.size s W1 := by rw [hW1]; exact (Boxed.new w _ _).cell
  have hk2 : KI W1.heap.size si (W1.alloc (.cells #[.int .i64 si] 3)) := (Boxed.new W1 _ _).cell
  have hz : W1.heap.size = w.heap.size + 1 := by rw [hW1]; simp
  have hs2 : Since W1 (W1.alloc (.cells #[.int .i64 si] 3)) := Since.alloc (Since.refl W1) _
  have hkk : KOf w.heap.size W1.heap.size s si (W1.alloc (.cells #[.int .i64 si] 3)) := ⟨Kp.keep (Kp.keep hT hs1) hs2, Kp.keep hk1 hs2, hk2⟩
  have c2 := find_of (KOf w.heap.size W1.heap.size s si) (fun w h => h.1) (wants s.data.toList si) (.pointer (some ⟨w.heap.size, 0, none⟩)) (.pointer (some ⟨W1.heap.size, 0, none⟩)) (fun r => of1_mk w.heap.size W1.heap.size s si _ _ _ _ _ _ _ (by rw [toList_d, toList_d, list_bs]) rfl) n q hn
  have hs3 := Since.step hs1 hs2
  rw [hz] at hkk c2
  rw [hW1] at hkk hs3
  have HKK := Lib.hid hkk
  have HS3 := Lib.hid hs3
  clear hk1 hk2 hkk hT hn hs1 hs2 hs3 hz hW1
  go_enter Tryz.func76, Tryz.ntmps76
  go_wp2_with fail
  refine c2.calls0 HKK.out ?_
  intro w2 h2
  replace HS := Lib.hid (HS3.out.step h2)
  clear h2
  go_wp2_with fail
  go_ret2
  exact ⟨rfl, HS.out⟩
def KRdI3 (K : World → Prop) (f : Nat) (xs : List Int) (a b : Int) (v : Value) : Prop := ∀ w x, IntsS w x xs → K w → Calls Tryz.prog f #[x, .int .i64 a, .int .i64 b] w fun e w' => e = .returned v ∧ Below w.heap.size w w'
end Kind
end Go.Proofs.YtddlaafpianjbaaGreatDoor

/- The reference of layer 23; kind.Check. -/
namespace Go.Proofs.YtddlaafpianjbaaGreatDoor
open Go.RowKit
namespace Kind
open Curve (KMkI KAll)
set_option maxRecDepth 100000 in
theorem rc_1 : Ret 86 #[.int .i64 1] (.int .i64 0) := by
  intro w
  go_enter Tryz.func86, Tryz.ntmps86
  go_wp2_with fail
  go_ret
  exact ⟨rfl, rfl⟩
set_option maxRecDepth 100000 in
theorem rc_2 : Ret 86 #[.int .i64 2] (.int .i64 0) := by
  intro w
  go_enter Tryz.func86, Tryz.ntmps86
  go_wp2_with fail
  go_ret
  exact ⟨rfl, rfl⟩
set_option maxRecDepth 100000 in
theorem rc_3 : Ret 86 #[.int .i64 3] (.int .i64 0) := by
  intro w
  go_enter Tryz.func86, Tryz.ntmps86
  go_wp2_with fail
  go_ret
  exact ⟨rfl, rfl⟩
set_option maxRecDepth 100000 in
theorem rc_4 : Ret 86 #[.int .i64 4] (.int .i64 0) := by
  intro w
  go_enter Tryz.func86, Tryz.ntmps86
  go_wp2_with fail
  go_ret
  exact ⟨rfl, rfl⟩
set_option maxRecDepth 100000 in
theorem rc_5 : Ret 86 #[.int .i64 5] (.int .i64 0) := by
  intro w
  go_enter Tryz.func86, Tryz.ntmps86
  go_wp2_with fail
  go_ret
  exact ⟨rfl, rfl⟩
set_option maxRecDepth 100000 in
theorem rc_6 : Ret 86 #[.int .i64 6] (.int .i64 0) := by
  intro w
  go_enter Tryz.func86, Tryz.ntmps86
  go_wp2_with fail
  go_ret
  exact ⟨rfl, rfl⟩
set_option maxRecDepth 100000 in
theorem rc_7 : Ret 86 #[.int .i64 7] (.int .i64 0) := by
  intro w
  go_enter Tryz.func86, Tryz.ntmps86
  go_wp2_with fail
  go_ret
  exact ⟨rfl, rfl⟩
set_option maxRecDepth 100000 in
theorem rc_8 : Ret 86 #[.int .i64 8] (.int .i64 1) := by
  intro w
  go_enter Tryz.func86, Tryz.ntmps86
  go_wp2_with fail
  go_ret
  exact ⟨rfl, rfl⟩
set_option maxRecDepth 100000 in
theorem rc_9 : Ret 86 #[.int .i64 9] (.int .i64 2) := by
  intro w
  go_enter Tryz.func86, Tryz.ntmps86
  go_wp2_with fail
  go_ret
  exact ⟨rfl, rfl⟩
set_option maxRecDepth 100000 in
theorem rc_10 : Ret 86 #[.int .i64 10] (.int .i64 3) := by
  intro w
  go_enter Tryz.func86, Tryz.ntmps86
  go_wp2_with fail
  go_ret
  exact ⟨rfl, rfl⟩
set_option maxRecDepth 100000 in
theorem rc_11 : Ret 86 #[.int .i64 11] (.int .i64 4) := by
  intro w
  go_enter Tryz.func86, Tryz.ntmps86
  go_wp2_with fail
  go_ret
  exact ⟨rfl, rfl⟩
set_option maxRecDepth 100000 in
theorem rc_no (k : Int) (h : k < 1 ∨ 11 < k) : Ret 86 #[.int .i64 k] (.int .i64 0) := by
  intro w
  by_cases h1 : 8 ≤ k
  · have h2 : ¬ k ≤ 11 := by omega
    clear h
    go_enter Tryz.func86, Tryz.ntmps86
    go_wp2_with fail
    go_ret
    exact ⟨rfl, rfl⟩
  · clear h
    go_enter Tryz.func86, Tryz.ntmps86
    go_wp2_with fail
    go_ret
    exact ⟨rfl, rfl⟩
theorem rsize_ret (no : Int) (X : Int) (hX : X = (rowOf no).2.1) : Ret 50 #[.int .i64 no] (.int .i64 X) := by
  subst hX
  rcases row_cases no with h | rfl | rfl | rfl | rfl | rfl | rfl | rfl | rfl | rfl | rfl | rfl
  · rw [rowOf_out no h]; exact rsize_no no h
  · exact rsize_1
  · exact rsize_2
  · exact rsize_3
  · exact rsize_4
  · exact rsize_5
  · exact rsize_6
  · exact rsize_7
  · exact rsize_8
  · exact rsize_9
  · exact rsize_10
  · exact rsize_11
theorem rletter_ret (no : Int) (X : ByteArray) (hX : X = bs (rowOf no).2.2.1) : Ret 17 #[.int .i64 no] (.string X) := by
  subst hX
  rcases row_cases no with h | rfl | rfl | rfl | rfl | rfl | rfl | rfl | rfl | rfl | rfl | rfl
  · rw [rowOf_out no h]; exact rletter_no no h
  · exact rletter_1
  · exact rletter_2
  · exact rletter_3
  · exact rletter_4
  · exact rletter_5
  · exact rletter_6
  · exact rletter_7
  · exact rletter_8
  · exact rletter_9
  · exact rletter_10
  · exact rletter_11
theorem rcurve_ret (no : Int) (X : Int) (hX : X = (rowOf no).2.2.2.1) : Ret 86 #[.int .i64 no] (.int .i64 X) := by
  subst hX
  rcases row_cases no with h | rfl | rfl | rfl | rfl | rfl | rfl | rfl | rfl | rfl | rfl | rfl
  · rw [rowOf_out no h]; exact rc_no no h
  · exact rc_1
  · exact rc_2
  · exact rc_3
  · exact rc_4
  · exact rc_5
  · exact rc_6
  · exact rc_7
  · exact rc_8
  · exact rc_9
  · exact rc_10
  · exact rc_11
def RdI3 (f : Nat) (xs : List Int) (a b : Int) (v : Value) : Prop := ∀ w x, IntsS w x xs → Calls Tryz.prog f #[x, .int .i64 a, .int .i64 b] w fun e w' => e = .returned v ∧ Below w.heap.size w w'
end Kind
end Go.Proofs.YtddlaafpianjbaaGreatDoor

/- kind.Check, and the reference's; what the laws of layer 23 call awake. -/
namespace Go.Proofs.YtddlaafpianjbaaGreatDoor
open Go.RowKit
namespace Kind
open Curve (KMkI KAll)
/-- both tables -/
def Tab2 : World → Prop := fun w => Tabs w ∧ Curve.Tabs w
instance : Kp Tab2 := ⟨fun h hb => ⟨Kp.keep h.1 hb, Kp.keep h.2 hb⟩⟩
theorem KMk.t2 {f : Nat} {args : Array Value} {v : Value} (h : KMk Tabs f args v) : KMk Tab2 f args v := h.weak (fun _ h => h.1)
/-- why a key is none of a line's kind -/
def chkE (r : Row) (s : List UInt8) : Int := if r.2.1 = 0 then 8 else if (s.length : Int) ≠ r.2.1 then 9 else if r.2.2.2.1 ≠ 0 ∧ Curve.scB (Curve.rowOf r.2.2.2.1) s = false then 10 else 0
set_option maxRecDepth 100000 in
theorem chk_0 (no : Int) (s : ByteArray) (x y z : ByteArray) (n c : Int) (hn : (n == 0) = true) (c1 : KMk Tab2 85 #[.int .i64 no] (.agg #[.string x, .int .i64 n, .string y, .int .i64 c, .string z])) : KMk Tab2 55 #[.int .i64 no, .string s] (.int .i64 8) := by
  intro w hT
  go_enter Tryz.func55, Tryz.ntmps55
  go_wp2_with fail
  refine c1.calls0 hT ?_
  intro w1 h1
  have HSB := Lib.hid (Since.alloc h1 (.cells #[.string x, .int .i64 n, .string y, .int .i64 c, .string z] 104))
  clear hT h1
  go_wp2_with fail
  go_ret
  exact ⟨rfl, HSB.out⟩
set_option maxRecDepth 100000 in
theorem chk_l (no : Int) (s : ByteArray) (x y z : ByteArray) (n c : Int) (hn : (n == 0) = false) (hl : ((s.size : Int) != n) = true) (c1 : KMk Tab2 85 #[.int .i64 no] (.agg #[.string x, .int .i64 n, .string y, .int .i64 c, .string z])) : KMk Tab2 55 #[.int .i64 no, .string s] (.int .i64 9) := by
  intro w hT
  go_enter Tryz.func55, Tryz.ntmps55
  go_wp2_with fail
  refine c1.calls0 hT ?_
  intro w1 h1
  have HSB := Lib.hid (Since.alloc h1 (.cells #[.string x, .int .i64 n, .string y, .int .i64 c, .string z] 104))
  clear hT h1
  go_wp2_with fail
  go_ret
  exact ⟨rfl, HSB.out⟩
set_option maxRecDepth 100000 in
theorem chk_n (no : Int) (s : ByteArray) (x y z : ByteArray) (n c : Int) (hn : (n == 0) = false) (hl : ((s.size : Int) != n) = false) (hc : (c != 0) = false) (c1 : KMk Tab2 85 #[.int .i64 no] (.agg #[.string x, .int .i64 n, .string y, .int .i64 c, .string z])) : KMk Tab2 55 #[.int .i64 no, .string s] (.int .i64 0) := by
  intro w hT
  go_enter Tryz.func55, Tryz.ntmps55
  go_wp2_with fail
  refine c1.calls0 hT ?_
  intro w1 h1
  have HSB := Lib.hid (Since.alloc h1 (.cells #[.string x, .int .i64 n, .string y, .int .i64 c, .string z] 104))
  clear hT h1
  go_wp2_with fail
  go_ret
  exact ⟨rfl, HSB.out⟩
set_option maxRecDepth 100000 in
theorem chk_f (no : Int) (s : ByteArray) (x y z : ByteArray) (n c : Int) (hn : (n == 0) = false) (hl : ((s.size : Int) != n) = false) (hc : (c != 0) = true) (c1 : KMk Tab2 85 #[.int .i64 no] (.agg #[.string x, .int .i64 n, .string y, .int .i64 c, .string z])) (c2 : KMk Tab2 100 #[.int .i64 c, .string s] (.bool false)) : KMk Tab2 55 #[.int .i64 no, .string s] (.int .i64 10) := by
  intro w hT
  go_enter Tryz.func55, Tryz.ntmps55
  go_wp2_with fail
  refine c1.calls0 hT ?_
  intro w1 h1
  have HSB := Lib.hid (Since.alloc h1 (.cells #[.string x, .int .i64 n, .string y, .int .i64 c, .string z] 104))
  have HTB := Lib.hid (Kp.keep hT HSB.out)
  clear hT h1
  go_wp2_with fail
  refine c2.calls0 HTB.out ?_
  intro w2 h2
  have HSC := Lib.hid (HSB.out.step h2)
  clear h2
  go_wp2_with fail
  go_ret
  exact ⟨rfl, HSC.out⟩
set_option maxRecDepth 100000 in
theorem chk_t (no : Int) (s : ByteArray) (x y z : ByteArray) (n c : Int) (hn : (n == 0) = false) (hl : ((s.size : Int) != n) = false) (hc : (c != 0) = true) (c1 : KMk Tab2 85 #[.int .i64 no] (.agg #[.string x, .int .i64 n, .string y, .int .i64 c, .string z])) (c2 : KMk Tab2 100 #[.int .i64 c, .string s] (.bool true)) : KMk Tab2 55 #[.int .i64 no, .string s] (.int .i64 0) := by
  intro w hT
  go_enter Tryz.func55, Tryz.ntmps55
  go_wp2_with fail
  refine c1.calls0 hT ?_
  intro w1 h1
  have HSB := Lib.hid (Since.alloc h1 (.cells #[.string x, .int .i64 n, .string y, .int .i64 c, .string z] 104))
  have HTB := Lib.hid (Kp.keep hT HSB.out)
  clear hT h1
  go_wp2_with fail
  refine c2.calls0 HTB.out ?_
  intro w2 h2
  have HSC := Lib.hid (HSB.out.step h2)
  clear h2
  go_wp2_with fail
  go_ret
  exact ⟨rfl, HSC.out⟩
theorem check_k (no : Int) (s : ByteArray) (hm : s.size ≤ 140737488355328) (E : Int) (hE : E = chkE (rowOf no) s.data.toList) : KMk Tab2 55 #[.int .i64 no, .string s] (.int .i64 E) := by
  subst hE
  have c1 := KMk.t2 (by_k no)
  unfold rowV at c1
  unfold chkE
  have hl : s.data.toList.length = s.size := rfl
  rw [hl]
  by_cases h0 : (rowOf no).2.1 = 0
  · rw [if_pos h0]; exact chk_0 no s _ _ _ _ _ (beq_iff_eq.2 h0) c1
  · rw [if_neg h0]
    by_cases h1 : (s.size : Int) ≠ (rowOf no).2.1
    · rw [if_pos h1]; exact chk_l no s _ _ _ _ _ (beq_eq_false_iff_ne.2 h0) (bne_iff_ne.2 h1) c1
    · have h1' : (s.size : Int) = (rowOf no).2.1 := by omega
      rw [if_neg h1]
      by_cases h2 : (rowOf no).2.2.2.1 = 0
      · rw [if_neg (fun h => h.1 h2)]; exact chk_n no s _ _ _ _ _ (beq_eq_false_iff_ne.2 h0) (bne_eq_false_iff_eq.2 h1') (bne_eq_false_iff_eq.2 h2) c1
      · have c2 : KMk Tab2 100 #[.int .i64 (rowOf no).2.2.2.1, .string s] (.bool (Curve.scB (Curve.rowOf (rowOf no).2.2.2.1) s.data.toList)) := (Curve.scalar_k _ s hm _ rfl).weak (fun _ h => h.2)
        cases hq : Curve.scB (Curve.rowOf (rowOf no).2.2.2.1) s.data.toList with
        | false =>
          rw [hq] at c2
          rw [if_pos ⟨h2, rfl⟩]; exact chk_f no s _ _ _ _ _ (beq_eq_false_iff_ne.2 h0) (bne_eq_false_iff_eq.2 h1') (bne_iff_ne.2 h2) c1 c2
        | true =>
          rw [hq] at c2
          rw [if_neg (fun h => by cases h.2)]; exact chk_t no s _ _ _ _ _ (beq_eq_false_iff_ne.2 h0) (bne_eq_false_iff_eq.2 h1') (bne_iff_ne.2 h2) c1 c2
set_option maxRecDepth 100000 in
theorem rchk_0 (no : Int) (s : ByteArray) (n _c : Int) (hn : (n == 0) = true) (c1 : Ret 50 #[.int .i64 no] (.int .i64 n)) : Mak 44 #[.int .i64 no, .string s] (.int .i64 8) := by
  intro w
  have HS := Lib.hid (Since.refl w)
  go_enter Tryz.func44, Tryz.ntmps44
  go_wp2_with fail
  repeat (first
    | (with_reducible refine c1.calls ?_; try go_wp2_with fail))
  go_ret
  exact ⟨rfl, HS.out⟩
set_option maxRecDepth 100000 in
theorem rchk_l (no : Int) (s : ByteArray) (n _c : Int) (hn : (n == 0) = false) (hl : ((s.size : Int) != n) = true) (c1 : Ret 50 #[.int .i64 no] (.int .i64 n)) : Mak 44 #[.int .i64 no, .string s] (.int .i64 9) := by
  intro w
  have HS := Lib.hid (Since.refl w)
  go_enter Tryz.func44, Tryz.ntmps44
  go_wp2_with fail
  repeat (first
    | (with_reducible refine c1.calls ?_; try go_wp2_with fail))
  go_ret
  exact ⟨rfl, HS.out⟩
set_option maxRecDepth 100000 in
theorem rchk_n (no : Int) (s : ByteArray) (n c : Int) (hn : (n == 0) = false) (hl : ((s.size : Int) != n) = false) (hc : decide (0 < c) = false) (c1 : Ret 50 #[.int .i64 no] (.int .i64 n)) (c2 : Ret 86 #[.int .i64 no] (.int .i64 c)) : Mak 44 #[.int .i64 no, .string s] (.int .i64 0) := by
  intro w
  have HS := Lib.hid (Since.refl w)
  go_enter Tryz.func44, Tryz.ntmps44
  go_wp2_with fail
  repeat (first
    | (with_reducible refine c1.calls ?_; try go_wp2_with fail)
    | (with_reducible refine c2.calls ?_; try go_wp2_with fail))
  go_ret
  exact ⟨rfl, HS.out⟩
set_option maxRecDepth 100000 in
theorem rchk_f (no : Int) (s : ByteArray) (n c : Int) (hn : (n == 0) = false) (hl : ((s.size : Int) != n) = false) (hc : decide (0 < c) = true) (c1 : Ret 50 #[.int .i64 no] (.int .i64 n)) (c2 : Ret 86 #[.int .i64 no] (.int .i64 c)) (c3 : Mak 87 #[.int .i64 c, .string s] (.bool false)) : Mak 44 #[.int .i64 no, .string s] (.int .i64 10) := by
  intro w
  have HS := Lib.hid (Since.refl w)
  go_enter Tryz.func44, Tryz.ntmps44
  go_wp2_with fail
  repeat (first
    | (with_reducible refine c1.calls ?_; try go_wp2_with fail)
    | (with_reducible refine c2.calls ?_; try go_wp2_with fail)
    | (with_reducible refine c3.calls HS.out ?_; intro wz hz; replace HS := Lib.hid hz; clear hz; try go_wp2_with fail))
  go_ret
  exact ⟨rfl, HS.out⟩
set_option maxRecDepth 100000 in
theorem rchk_t (no : Int) (s : ByteArray) (n c : Int) (hn : (n == 0) = false) (hl : ((s.size : Int) != n) = false) (hc : decide (0 < c) = true) (c1 : Ret 50 #[.int .i64 no] (.int .i64 n)) (c2 : Ret 86 #[.int .i64 no] (.int .i64 c)) (c3 : Mak 87 #[.int .i64 c, .string s] (.bool true)) : Mak 44 #[.int .i64 no, .string s] (.int .i64 0) := by
  intro w
  have HS := Lib.hid (Since.refl w)
  go_enter Tryz.func44, Tryz.ntmps44
  go_wp2_with fail
  repeat (first
    | (with_reducible refine c1.calls ?_; try go_wp2_with fail)
    | (with_reducible refine c2.calls ?_; try go_wp2_with fail)
    | (with_reducible refine c3.calls HS.out ?_; intro wz hz; replace HS := Lib.hid hz; clear hz; try go_wp2_with fail))
  go_ret
  exact ⟨rfl, HS.out⟩
theorem row_curve (no : Int) : 0 ≤ (rowOf no).2.2.2.1 := by
  unfold rowOf
  split
  · rename_i h
    have hall : ∀ r ∈ rows, 0 ≤ r.2.2.2.1 := by decide +kernel
    cases hr : rows[(no - 1).toNat]? with
    | none => exact Int.le_refl 0
    | some r => exact hall r (List.mem_of_getElem? hr)
  · exact Int.le_refl 0
theorem rcheck_mak (no : Int) (s : ByteArray) (hm : s.size ≤ 140737488355328) (E : Int) (hE : E = chkE (rowOf no) s.data.toList) : Mak 44 #[.int .i64 no, .string s] (.int .i64 E) := by
  subst hE
  have c1 := rsize_ret no _ rfl
  have c2 := rcurve_ret no _ rfl
  have hcv := row_curve no
  unfold chkE
  have hl : s.data.toList.length = s.size := rfl
  rw [hl]
  by_cases h0 : (rowOf no).2.1 = 0
  · rw [if_pos h0]; exact rchk_0 no s _ 0 (beq_iff_eq.2 h0) c1
  · rw [if_neg h0]
    by_cases h1 : (s.size : Int) ≠ (rowOf no).2.1
    · rw [if_pos h1]; exact rchk_l no s _ 0 (beq_eq_false_iff_ne.2 h0) (bne_iff_ne.2 h1) c1
    · have h1' : (s.size : Int) = (rowOf no).2.1 := by omega
      rw [if_neg h1]
      by_cases h2 : (rowOf no).2.2.2.1 = 0
      · rw [if_neg (fun h => h.1 h2)]; exact rchk_n no s _ _ (beq_eq_false_iff_ne.2 h0) (bne_eq_false_iff_eq.2 h1') (decide_eq_false (by omega)) c1 c2
      · have c3 := Curve.rscalar_mak (rowOf no).2.2.2.1 s hm _ rfl
        cases hq : Curve.scB (Curve.rowOf (rowOf no).2.2.2.1) s.data.toList with
        | false =>
          rw [hq] at c3
          rw [if_pos ⟨h2, rfl⟩]; exact rchk_f no s _ _ (beq_eq_false_iff_ne.2 h0) (bne_eq_false_iff_eq.2 h1') (decide_eq_true (by omega)) c1 c2 c3
        | true =>
          rw [hq] at c3
          rw [if_neg (fun h => by cases h.2)]; exact rchk_t no s _ _ (beq_eq_false_iff_ne.2 h0) (bne_eq_false_iff_eq.2 h1') (decide_eq_true (by omega)) c1 c2 c3
end Kind
end Go.Proofs.YtddlaafpianjbaaGreatDoor

/- Package load: how long payloads are; the reference's too. -/
namespace Go.Proofs.YtddlaafpianjbaaGreatDoor
open Go.RowKit
namespace Load
open Kind (Tab2)
open Kind
/-- how long a payload is, of the most bytes of a letter's kinds -/
def tot (m : Int) : Int := if m = 0 then 0 else if m = 32 then 48 else if m = 24 then 32 else 80
theorem most_vals (l : List UInt8) : Kind.mostN l = 0 ∨ Kind.mostN l = 24 ∨ Kind.mostN l = 32 ∨ Kind.mostN l = 64 ∨ Kind.mostN l = 66 := by
  by_cases h1 : l = [65]
  · subst h1; exact Or.inr (Or.inr (Or.inl (by decide +kernel)))
  · by_cases h2 : l = [84]
    · subst h2; exact Or.inr (Or.inl (by decide +kernel))
    · by_cases h3 : l = [72]
      · subst h3; exact Or.inr (Or.inr (Or.inr (Or.inl (by decide +kernel))))
      · by_cases h4 : l = [69]
        · subst h4; exact Or.inr (Or.inr (Or.inr (Or.inr (by decide +kernel))))
        · refine Or.inl ?_
          have hn : (Kind.rows.take 11).filter (fun r => r.2.2.1 == l) = [] := by
            rw [List.filter_eq_nil_iff]
            intro r hr h
            have hall : ∀ r ∈ Kind.rows.take 11, r.2.2.1 = [65] ∨ r.2.2.1 = [84] ∨ r.2.2.1 = [72] ∨ r.2.2.1 = [69] := by decide +kernel
            rw [beq_iff_eq] at h
            rcases hall r hr with h5 | h5 | h5 | h5
            · exact h1 (h.symm.trans h5)
            · exact h2 (h.symm.trans h5)
            · exact h3 (h.symm.trans h5)
            · exact h4 (h.symm.trans h5)
          unfold Kind.mostN Kind.mostF
          rw [hn]; rfl
set_option maxRecDepth 100000 in
theorem tot_0 (l : ByteArray) (c1 : KMk Tab2 84 #[.string l] (.int .i64 0)) : KMk Tab2 41 #[.string l] (.int .i64 0) := by
  intro w hT
  have HS := Lib.hid (Since.refl w)
  have HT := Lib.hid hT
  clear hT
  go_enter Tryz.func41, Tryz.ntmps41
  go_wp2_with fail
  repeat (first
    | (with_reducible refine c1.calls0 HT.out ?_; intro wz hz; replace HT := Lib.hid (Kp.keep HT.out hz); replace HS := Lib.hid (HS.out.step hz); clear hz; try go_wp2_with fail))
  go_ret
  exact ⟨rfl, HS.out⟩
set_option maxRecDepth 100000 in
theorem tot_24 (l : ByteArray) (c1 : KMk Tab2 84 #[.string l] (.int .i64 24)) : KMk Tab2 41 #[.string l] (.int .i64 32) := by
  intro w hT
  have HS := Lib.hid (Since.refl w)
  have HT := Lib.hid hT
  clear hT
  go_enter Tryz.func41, Tryz.ntmps41
  go_wp2_with fail
  repeat (first
    | (with_reducible refine c1.calls0 HT.out ?_; intro wz hz; replace HT := Lib.hid (Kp.keep HT.out hz); replace HS := Lib.hid (HS.out.step hz); clear hz; try go_wp2_with fail))
  go_ret
  exact ⟨rfl, HS.out⟩
set_option maxRecDepth 100000 in
theorem tot_32 (l : ByteArray) (c1 : KMk Tab2 84 #[.string l] (.int .i64 32)) : KMk Tab2 41 #[.string l] (.int .i64 48) := by
  intro w hT
  have HS := Lib.hid (Since.refl w)
  have HT := Lib.hid hT
  clear hT
  go_enter Tryz.func41, Tryz.ntmps41
  go_wp2_with fail
  repeat (first
    | (with_reducible refine c1.calls0 HT.out ?_; intro wz hz; replace HT := Lib.hid (Kp.keep HT.out hz); replace HS := Lib.hid (HS.out.step hz); clear hz; try go_wp2_with fail))
  go_ret
  exact ⟨rfl, HS.out⟩
set_option maxRecDepth 100000 in
theorem tot_64 (l : ByteArray) (c1 : KMk Tab2 84 #[.string l] (.int .i64 64)) : KMk Tab2 41 #[.string l] (.int .i64 80) := by
  intro w hT
  have HS := Lib.hid (Since.refl w)
  have HT := Lib.hid hT
  clear hT
  go_enter Tryz.func41, Tryz.ntmps41
  go_wp2_with fail
  repeat (first
    | (with_reducible refine c1.calls0 HT.out ?_; intro wz hz; replace HT := Lib.hid (Kp.keep HT.out hz); replace HS := Lib.hid (HS.out.step hz); clear hz; try go_wp2_with fail))
  go_ret
  exact ⟨rfl, HS.out⟩
set_option maxRecDepth 100000 in
theorem tot_66 (l : ByteArray) (c1 : KMk Tab2 84 #[.string l] (.int .i64 66)) : KMk Tab2 41 #[.string l] (.int .i64 80) := by
  intro w hT
  have HS := Lib.hid (Since.refl w)
  have HT := Lib.hid hT
  clear hT
  go_enter Tryz.func41, Tryz.ntmps41
  go_wp2_with fail
  repeat (first
    | (with_reducible refine c1.calls0 HT.out ?_; intro wz hz; replace HT := Lib.hid (Kp.keep HT.out hz); replace HS := Lib.hid (HS.out.step hz); clear hz; try go_wp2_with fail))
  go_ret
  exact ⟨rfl, HS.out⟩
theorem total_k (l : ByteArray) (X : Int) (hX : X = tot (Kind.mostN l.data.toList)) : KMk Tab2 41 #[.string l] (.int .i64 X) := by
  subst hX
  have c1 := KMk.t2 (Kind.most_k l _ rfl)
  rcases most_vals l.data.toList with h | h | h | h | h
  all_goals rw [h] at c1 ⊢
  · exact tot_0 l c1
  · exact tot_24 l c1
  · exact tot_32 l c1
  · exact tot_64 l c1
  · exact tot_66 l c1
set_option maxRecDepth 100000 in
theorem rtot_0 (l : ByteArray) (c1 : Ret 63 #[.string l] (.int .i64 0)) : Ret 43 #[.string l] (.int .i64 0) := by
  intro w
  go_enter Tryz.func43, Tryz.ntmps43
  go_wp2_with fail
  repeat (first
    | (with_reducible refine c1.calls ?_; try go_wp2_with fail))
  go_ret
  exact ⟨rfl, rfl⟩
set_option maxRecDepth 100000 in
theorem rtot_24 (l : ByteArray) (c1 : Ret 63 #[.string l] (.int .i64 24)) : Ret 43 #[.string l] (.int .i64 32) := by
  intro w
  go_enter Tryz.func43, Tryz.ntmps43
  go_wp2_with fail
  repeat (first
    | (with_reducible refine c1.calls ?_; try go_wp2_with fail))
  go_loop [3] (fun i => ∃ k : Nat, 24 + 2 ≤ k ∧ k ≤ 32 ∧ i = .int .i64 (k : Int)) (fun i => 32 - (intOf i).toNat)
  case atStart => exact ⟨24 + 2, by omega, by omega, rfl⟩
  case round =>
    obtain ⟨k, hk0, hk, rfl⟩ := hrel
    by_cases hlt : k < 32
    · have t1 : ((k : Int) % 16 != 0) = true := by rw [bne_iff_ne]; omega
      go_wp2_with fail
      go_round
      case rel => exact ⟨k + 1, by omega, by omega, by go_num⟩
      case measure => simp [intOf]; omega
    · obtain rfl : k = 32 := by omega
      go_wp2_with fail
      go_ret
      exact ⟨rfl, rfl⟩
set_option maxRecDepth 100000 in
theorem rtot_32 (l : ByteArray) (c1 : Ret 63 #[.string l] (.int .i64 32)) : Ret 43 #[.string l] (.int .i64 48) := by
  intro w
  go_enter Tryz.func43, Tryz.ntmps43
  go_wp2_with fail
  repeat (first
    | (with_reducible refine c1.calls ?_; try go_wp2_with fail))
  go_loop [3] (fun i => ∃ k : Nat, 32 + 2 ≤ k ∧ k ≤ 48 ∧ i = .int .i64 (k : Int)) (fun i => 48 - (intOf i).toNat)
  case atStart => exact ⟨32 + 2, by omega, by omega, rfl⟩
  case round =>
    obtain ⟨k, hk0, hk, rfl⟩ := hrel
    by_cases hlt : k < 48
    · have t1 : ((k : Int) % 16 != 0) = true := by rw [bne_iff_ne]; omega
      go_wp2_with fail
      go_round
      case rel => exact ⟨k + 1, by omega, by omega, by go_num⟩
      case measure => simp [intOf]; omega
    · obtain rfl : k = 48 := by omega
      go_wp2_with fail
      go_ret
      exact ⟨rfl, rfl⟩
set_option maxRecDepth 100000 in
theorem rtot_64 (l : ByteArray) (c1 : Ret 63 #[.string l] (.int .i64 64)) : Ret 43 #[.string l] (.int .i64 80) := by
  intro w
  go_enter Tryz.func43, Tryz.ntmps43
  go_wp2_with fail
  repeat (first
    | (with_reducible refine c1.calls ?_; try go_wp2_with fail))
  go_loop [3] (fun i => ∃ k : Nat, 64 + 2 ≤ k ∧ k ≤ 80 ∧ i = .int .i64 (k : Int)) (fun i => 80 - (intOf i).toNat)
  case atStart => exact ⟨64 + 2, by omega, by omega, rfl⟩
  case round =>
    obtain ⟨k, hk0, hk, rfl⟩ := hrel
    by_cases hlt : k < 80
    · have t1 : ((k : Int) % 16 != 0) = true := by rw [bne_iff_ne]; omega
      go_wp2_with fail
      go_round
      case rel => exact ⟨k + 1, by omega, by omega, by go_num⟩
      case measure => simp [intOf]; omega
    · obtain rfl : k = 80 := by omega
      go_wp2_with fail
      go_ret
      exact ⟨rfl, rfl⟩
set_option maxRecDepth 100000 in
theorem rtot_66 (l : ByteArray) (c1 : Ret 63 #[.string l] (.int .i64 66)) : Ret 43 #[.string l] (.int .i64 80) := by
  intro w
  go_enter Tryz.func43, Tryz.ntmps43
  go_wp2_with fail
  repeat (first
    | (with_reducible refine c1.calls ?_; try go_wp2_with fail))
  go_loop [3] (fun i => ∃ k : Nat, 66 + 2 ≤ k ∧ k ≤ 80 ∧ i = .int .i64 (k : Int)) (fun i => 80 - (intOf i).toNat)
  case atStart => exact ⟨66 + 2, by omega, by omega, rfl⟩
  case round =>
    obtain ⟨k, hk0, hk, rfl⟩ := hrel
    by_cases hlt : k < 80
    · have t1 : ((k : Int) % 16 != 0) = true := by rw [bne_iff_ne]; omega
      go_wp2_with fail
      go_round
      case rel => exact ⟨k + 1, by omega, by omega, by go_num⟩
      case measure => simp [intOf]; omega
    · obtain rfl : k = 80 := by omega
      go_wp2_with fail
      go_ret
      exact ⟨rfl, rfl⟩
theorem rtotal_ret (l : ByteArray) (X : Int) (hX : X = tot (Kind.mostN l.data.toList)) : Ret 43 #[.string l] (.int .i64 X) := by
  subst hX
  have c1 := Kind.rmost_ret l _ rfl
  rcases most_vals l.data.toList with h | h | h | h | h
  all_goals rw [h] at c1 ⊢
  · exact rtot_0 l c1
  · exact rtot_24 l c1
  · exact rtot_32 l c1
  · exact rtot_64 l c1
  · exact rtot_66 l c1
/-- how many pads a line's payload has -/
def padsI (r : Kind.Row) : Int := if r.2.1 = 0 then 0 else tot (Kind.mostN r.2.2.1) - 2 - r.2.1
set_option maxRecDepth 100000 in
theorem pads_0 (no : Int) (c1 : KMk Tab2 53 #[.int .i64 no] (.int .i64 0)) : KMk Tab2 25 #[.int .i64 no] (.int .i64 0) := by
  intro w hT
  have HS := Lib.hid (Since.refl w)
  have HT := Lib.hid hT
  clear hT
  go_enter Tryz.func25, Tryz.ntmps25
  go_wp2_with fail
  repeat (first
    | (with_reducible refine c1.calls0 HT.out ?_; intro wz hz; replace HT := Lib.hid (Kp.keep HT.out hz); replace HS := Lib.hid (HS.out.step hz); clear hz; try go_wp2_with fail))
  go_ret
  exact ⟨rfl, HS.out⟩
set_option maxRecDepth 100000 in
theorem pads_l (no n t : Int) (l : ByteArray) (hn : (n == 0) = false) (h0 : 0 ≤ n ∧ n ≤ 100) (h1 : 0 ≤ t ∧ t ≤ 100) (c1 : KMk Tab2 53 #[.int .i64 no] (.int .i64 n)) (c2 : KMk Tab2 42 #[.int .i64 no] (.string l)) (c3 : KMk Tab2 41 #[.string l] (.int .i64 t)) : KMk Tab2 25 #[.int .i64 no] (.int .i64 (t - 2 - n)) := by
  intro w hT
  have HS := Lib.hid (Since.refl w)
  have HT := Lib.hid hT
  have e1 : IntKind.i64.wrap (t - 2) = t - 2 := IntWalk.i64_in _ (by omega)
  have e2 : IntKind.i64.wrap (t - 2 - n) = t - 2 - n := IntWalk.i64_in _ (by omega)
  clear hT
  go_enter Tryz.func25, Tryz.ntmps25
  go_wp2_with fail
  repeat (first
    | (with_reducible refine c1.calls0 HT.out ?_; intro wz hz; replace HT := Lib.hid (Kp.keep HT.out hz); replace HS := Lib.hid (HS.out.step hz); clear hz; try go_wp2_with fail)
    | (with_reducible refine c2.calls0 HT.out ?_; intro wz hz; replace HT := Lib.hid (Kp.keep HT.out hz); replace HS := Lib.hid (HS.out.step hz); clear hz; try go_wp2_with fail)
    | (with_reducible refine c3.calls0 HT.out ?_; intro wz hz; replace HT := Lib.hid (Kp.keep HT.out hz); replace HS := Lib.hid (HS.out.step hz); clear hz; try go_wp2_with fail))
  go_ret
  exact ⟨rfl, HS.out⟩
set_option maxRecDepth 100000 in
theorem rpads_0 (no : Int) (c1 : Ret 50 #[.int .i64 no] (.int .i64 0)) : Ret 18 #[.int .i64 no] (.int .i64 0) := by
  intro w
  go_enter Tryz.func18, Tryz.ntmps18
  go_wp2_with fail
  repeat (first
    | (with_reducible refine c1.calls ?_; try go_wp2_with fail))
  go_ret
  exact ⟨rfl, rfl⟩
set_option maxRecDepth 100000 in
theorem rpads_l (no n t : Int) (l : ByteArray) (hn : (n == 0) = false) (h0 : 0 ≤ n ∧ n ≤ 100) (h1 : 0 ≤ t ∧ t ≤ 100) (c1 : Ret 50 #[.int .i64 no] (.int .i64 n)) (c2 : Ret 17 #[.int .i64 no] (.string l)) (c3 : Ret 43 #[.string l] (.int .i64 t)) : Ret 18 #[.int .i64 no] (.int .i64 (t - 2 - n)) := by
  intro w
  have e1 : IntKind.i64.wrap (t - 2) = t - 2 := IntWalk.i64_in _ (by omega)
  have e2 : IntKind.i64.wrap (t - 2 - n) = t - 2 - n := IntWalk.i64_in _ (by omega)
  go_enter Tryz.func18, Tryz.ntmps18
  go_wp2_with fail
  repeat (first
    | (with_reducible refine c1.calls ?_; try go_wp2_with fail)
    | (with_reducible refine c2.calls ?_; try go_wp2_with fail)
    | (with_reducible refine c3.calls ?_; try go_wp2_with fail))
  go_ret
  exact ⟨rfl, rfl⟩
theorem row_size (no : Int) : 0 ≤ (Kind.rowOf no).2.1 ∧ (Kind.rowOf no).2.1 ≤ 100 := by
  unfold Kind.rowOf
  split
  · have hall : ∀ r ∈ Kind.rows, 0 ≤ r.2.1 ∧ r.2.1 ≤ 100 := by decide +kernel
    cases hr : Kind.rows[(no - 1).toNat]? with
    | none => exact ⟨Int.le_refl 0, by decide⟩
    | some r => exact hall r (List.mem_of_getElem? hr)
  · exact ⟨Int.le_refl 0, by decide⟩
theorem tot_bounds (l : List UInt8) : 0 ≤ tot (Kind.mostN l) ∧ tot (Kind.mostN l) ≤ 100 := by
  rcases most_vals l with h | h | h | h | h <;> rw [h] <;> decide
theorem pads_k (no X : Int) (hX : X = padsI (Kind.rowOf no)) : KMk Tab2 25 #[.int .i64 no] (.int .i64 X) := by
  subst hX
  have c1 := KMk.t2 (Kind.size_k no _ rfl)
  unfold padsI
  by_cases h : (Kind.rowOf no).2.1 = 0
  · rw [if_pos h]; rw [h] at c1; exact pads_0 no c1
  · rw [if_neg h]
    have c3 := total_k (bs (Kind.rowOf no).2.2.1) _ rfl
    rw [list_bs] at c3
    exact pads_l no _ _ _ (beq_eq_false_iff_ne.2 h) (row_size no) (tot_bounds _) c1 (KMk.t2 (Kind.letter_k no _ rfl)) c3
theorem rpads_ret (no X : Int) (hX : X = padsI (Kind.rowOf no)) : Ret 18 #[.int .i64 no] (.int .i64 X) := by
  subst hX
  have c1 := Kind.rsize_ret no _ rfl
  unfold padsI
  by_cases h : (Kind.rowOf no).2.1 = 0
  · rw [if_pos h]; rw [h] at c1; exact rpads_0 no c1
  · rw [if_neg h]
    have c3 := rtotal_ret (bs (Kind.rowOf no).2.2.1) _ rfl
    rw [list_bs] at c3
    exact rpads_l no _ _ _ (beq_eq_false_iff_ne.2 h) (row_size no) (tot_bounds _) c1 (Kind.rletter_ret no _ rfl) c3
end Load
end Go.Proofs.YtddlaafpianjbaaGreatDoor

/- Package load: payloads made. -/
namespace Go.Proofs.YtddlaafpianjbaaGreatDoor
open Go.RowKit
namespace Load
open Kind (Tab2)
open Kind
set_option maxRecDepth 100000 in
theorem make_ok (no : Int) (key pads P X : ByteArray) (hk : key.size ≤ 100000) (hX : X = bs (Oct.cat [P, key, pads])) (hm : X.size ≤ 140737488355328) (c1 : KMk Tab2 55 #[.int .i64 no, .string key] (.int .i64 0)) (c2 : KMk Tab2 25 #[.int .i64 no] (.int .i64 (pads.size : Int))) (c3 : Mak 57 #[.int .u64 (8 * (key.size : Int)), .int .i64 2] (.string P)) : KMk Tab2 27 #[.int .i64 no, .string key, .string pads] (.tuple #[.string X, .int .i64 0]) := by
  intro w hT
  have HS := Lib.hid (Since.refl w)
  have HT := Lib.hid hT
  have e1 : IntKind.i64.wrap (8 * (key.size : Int)) = 8 * (key.size : Int) := IntWalk.i64_in _ (by omega)
  have e2 : IntKind.u64.wrap (8 * (key.size : Int)) = 8 * (key.size : Int) := IntWalk.u64_in _ (by omega)
  have HJ := Lib.hid (fun W => Oct.join_lit W [P, key, pads] 3 rfl #[.string P, .string key, .string pads] rfl X hX hm (by decide))
  clear hT hX
  go_enter Tryz.func27, Tryz.ntmps27
  go_wp2_with fail
  repeat (first
    | (with_reducible refine c1.calls0 HT.out ?_; intro wz hz; replace HT := Lib.hid (Kp.keep HT.out hz); replace HS := Lib.hid (HS.out.step hz); clear hz; try go_wp2_with fail)
    | (with_reducible refine c2.calls0 HT.out ?_; intro wz hz; replace HT := Lib.hid (Kp.keep HT.out hz); replace HS := Lib.hid (HS.out.step hz); clear hz; try go_wp2_with fail)
    | (with_reducible refine c3.calls0 ?_; intro wz hz; replace HT := Lib.hid (Kp.keep HT.out hz); replace HS := Lib.hid (HS.out.step hz); clear hz; try go_wp2_with fail))
  refine (HJ.out _).mono ?_
  rintro e w4 ⟨rfl, h4⟩
  have HS4 := Lib.hid (Since.step HS.out h4)
  clear h4
  go_wp2_with fail
  go_ret2
  exact ⟨rfl, HS4.out⟩
set_option maxRecDepth 100000 in
theorem rmake_ok (no : Int) (key pads P Q X : ByteArray) (hk : key.size ≤ 100000) (hp : pads.size ≤ 100000) (h1 : P.size ≤ 100) (hQ : P ++ key = Q) (hQ2 : Q.size ≤ 100100) (hX : Q ++ pads = X) (c1 : Mak 44 #[.int .i64 no, .string key] (.int .i64 0)) (c2 : Ret 18 #[.int .i64 no] (.int .i64 (pads.size : Int))) (c3 : Mak 62 #[.int .u64 (8 * (key.size : Int)), .int .i64 2] (.string P)) : Mak 30 #[.int .i64 no, .string key, .string pads] (.tuple #[.string X, .int .i64 0]) := by
  intro w
  have HS := Lib.hid (Since.refl w)
  have e1 : IntKind.i64.wrap (8 * (key.size : Int)) = 8 * (key.size : Int) := IntWalk.i64_in _ (by omega)
  have e2 : IntKind.u64.wrap (8 * (key.size : Int)) = 8 * (key.size : Int) := IntWalk.u64_in _ (by omega)
  have f1 : ¬ 9223372036854775807 < P.size + key.size := by omega
  have f2 : ¬ 9223372036854775807 < Q.size + pads.size := by omega
  go_enter Tryz.func30, Tryz.ntmps30
  go_wp2_with fail
  repeat (first
    | (with_reducible refine c1.calls HS.out ?_; intro wz hz; replace HS := Lib.hid hz; clear hz; try go_wp2_with fail)
    | (with_reducible refine c2.calls ?_; try go_wp2_with fail)
    | (with_reducible refine c3.calls HS.out ?_; intro wz hz; replace HS := Lib.hid hz; clear hz; try go_wp2_with fail))
  go_ret2
  exact ⟨rfl, HS.out⟩
end Load
end Go.Proofs.YtddlaafpianjbaaGreatDoor

/- Package load: payloads taken: what is refused ahead of the kind. -/
namespace Go.Proofs.YtddlaafpianjbaaGreatDoor
open Go.RowKit
theorem results_tmp4 {fn : Func} {t u v x : Tmp} (h : fn.results = #[.tmp t, .tmp u, .tmp v, .tmp x]) (tmps : Array Value) (P : Program) (w : World) :
    (results fn tmps).run P w = .ok (.tuple #[tmps.getD t undef, tmps.getD u undef, tmps.getD v undef, tmps.getD x undef]) w := by
  simp [results, h]
namespace Load
open Kind (Tab2)
open Kind
/-- no kind, no key -/
def no4 (e : Int) : Value := .tuple #[.int .i64 0, .string ⟨#[]⟩, .string ⟨#[]⟩, .int .i64 e]
set_option maxRecDepth 100000 in
theorem take_err (l s h key pads : ByteArray) (t b k : Int) (n m : Nat) (hs : 2 ≤ s.size) (hm : s.size ≤ 1000) (ht : ((s.size : Int) != t) = false) (hh : s.extract 0 2 = h) (hb : 0 ≤ b ∧ b ≤ 65535) (h8 : (b % 8 != 0) = false) (hn : b / 8 = (n : Int)) (hn9 : n ≤ 10000) (hl : decide ((s.size : Int) - 2 < (n : Int)) = false) (hmn : m = n + 2) (hms : m ≤ s.size) (hk : s.extract 2 m = key) (hp : s.extract m s.size = pads) (c1 : KMk Tab2 41 #[.string l] (.int .i64 t)) (c2 : Mak 75 #[.string h] (.tuple #[.int .u64 b, .bool true])) (c3 : KMk Tab2 76 #[.string l, .int .i64 (n : Int)] (.tuple #[.int .i64 k, .bool true])) (E : Int) (hE : (E != 0) = true) (c4 : KMk Tab2 55 #[.int .i64 k, .string key] (.int .i64 E)) : KMk Tab2 36 #[.string l, .string s] (no4 E) := by
  intro w hT
  have HS := Lib.hid (Since.refl w)
  have HT := Lib.hid hT
  have b1 := some_bytes s (by omega)
  have b2 := some_bytes_f s (by omega)
  have i1 : (2 : Int) ≤ (s.size : Int) := by omega
  have e0 : IntKind.i64.wrap (n : Int) = (n : Int) := IntWalk.i64_in _ (by omega)
  have e2 : IntKind.u64.wrap (n : Int) = (n : Int) := IntWalk.u64_in _ (by omega)
  have e4 : IntKind.i64.wrap ((s.size : Int) - 2) = (s.size : Int) - 2 := IntWalk.i64_in _ (by omega)
  have e5 : IntKind.i64.wrap (2 + (n : Int)) = (m : Int) := by rw [IntWalk.i64_in _ (by omega)]; omega
  have i2 : (2 : Int) ≤ (m : Int) := by omega
  have i3 : (m : Int) ≤ (s.size : Int) := by omega
  have i4 : (0 : Int) ≤ (m : Int) := by omega
  clear hT hmn hms
  go_enter Tryz.func36, Tryz.ntmps36
  go_wp2_with fail
  repeat (first
    | (with_reducible refine c1.calls0 HT.out ?_; intro wz hz; replace HT := Lib.hid (Kp.keep HT.out hz); replace HS := Lib.hid (HS.out.step hz); clear hz; try go_wp2_with fail)
    | (with_reducible refine c2.calls0 ?_; intro wz hz; replace HT := Lib.hid (Kp.keep HT.out hz); replace HS := Lib.hid (HS.out.step hz); clear hz; try go_wp2_with fail)
    | (with_reducible refine c3.calls0 HT.out ?_; intro wz hz; replace HT := Lib.hid (Kp.keep HT.out hz); replace HS := Lib.hid (HS.out.step hz); clear hz; try go_wp2_with fail))
  go_quiet (fail)
  go_wp2_with fail
  have hdr : Since wz (wz.drewN nq) := ⟨rfl, rfl, rfl, Nat.le_refl _, fun _ _ => rfl⟩
  refine c4.calls0 (w := wz.drewN nq) (Kp.keep HT.out hdr) ?_
  intro w5 h5
  have HS5 := Lib.hid (Since.step (Since.step HS.out hdr) h5)
  clear h5
  go_wp2_with fail
  refine bodyPost_ret (results_tmp4 rfl _ _ _) rfl ?_
  exact ⟨rfl, HS5.out⟩
set_option maxRecDepth 100000 in
theorem take_ok (l s h key pads : ByteArray) (t b k : Int) (n m : Nat) (hs : 2 ≤ s.size) (hm : s.size ≤ 1000) (ht : ((s.size : Int) != t) = false) (hh : s.extract 0 2 = h) (hb : 0 ≤ b ∧ b ≤ 65535) (h8 : (b % 8 != 0) = false) (hn : b / 8 = (n : Int)) (hn9 : n ≤ 10000) (hl : decide ((s.size : Int) - 2 < (n : Int)) = false) (hmn : m = n + 2) (hms : m ≤ s.size) (hk : s.extract 2 m = key) (hp : s.extract m s.size = pads) (c1 : KMk Tab2 41 #[.string l] (.int .i64 t)) (c2 : Mak 75 #[.string h] (.tuple #[.int .u64 b, .bool true])) (c3 : KMk Tab2 76 #[.string l, .int .i64 (n : Int)] (.tuple #[.int .i64 k, .bool true])) (c4 : KMk Tab2 55 #[.int .i64 k, .string key] (.int .i64 0)) : KMk Tab2 36 #[.string l, .string s] (.tuple #[.int .i64 k, .string key, .string pads, .int .i64 0]) := by
  intro w hT
  have HS := Lib.hid (Since.refl w)
  have HT := Lib.hid hT
  have b1 := some_bytes s (by omega)
  have b2 := some_bytes_f s (by omega)
  have i1 : (2 : Int) ≤ (s.size : Int) := by omega
  have e0 : IntKind.i64.wrap (n : Int) = (n : Int) := IntWalk.i64_in _ (by omega)
  have e2 : IntKind.u64.wrap (n : Int) = (n : Int) := IntWalk.u64_in _ (by omega)
  have e4 : IntKind.i64.wrap ((s.size : Int) - 2) = (s.size : Int) - 2 := IntWalk.i64_in _ (by omega)
  have e5 : IntKind.i64.wrap (2 + (n : Int)) = (m : Int) := by rw [IntWalk.i64_in _ (by omega)]; omega
  have i2 : (2 : Int) ≤ (m : Int) := by omega
  have i3 : (m : Int) ≤ (s.size : Int) := by omega
  have i4 : (0 : Int) ≤ (m : Int) := by omega
  clear hT hmn hms
  go_enter Tryz.func36, Tryz.ntmps36
  go_wp2_with fail
  repeat (first
    | (with_reducible refine c1.calls0 HT.out ?_; intro wz hz; replace HT := Lib.hid (Kp.keep HT.out hz); replace HS := Lib.hid (HS.out.step hz); clear hz; try go_wp2_with fail)
    | (with_reducible refine c2.calls0 ?_; intro wz hz; replace HT := Lib.hid (Kp.keep HT.out hz); replace HS := Lib.hid (HS.out.step hz); clear hz; try go_wp2_with fail)
    | (with_reducible refine c3.calls0 HT.out ?_; intro wz hz; replace HT := Lib.hid (Kp.keep HT.out hz); replace HS := Lib.hid (HS.out.step hz); clear hz; try go_wp2_with fail))
  go_quiet (fail)
  go_wp2_with fail
  have hdr : Since wz (wz.drewN nq) := ⟨rfl, rfl, rfl, Nat.le_refl _, fun _ _ => rfl⟩
  refine c4.calls0 (w := wz.drewN nq) (Kp.keep HT.out hdr) ?_
  intro w5 h5
  have HS5 := Lib.hid (Since.step (Since.step HS.out hdr) h5)
  clear h5
  go_wp2_with fail
  refine bodyPost_ret (results_tmp4 rfl _ _ _) rfl ?_
  exact ⟨rfl, HS5.out⟩
end Load
end Go.Proofs.YtddlaafpianjbaaGreatDoor

/- Package load: the reference's Take. -/
namespace Go.Proofs.YtddlaafpianjbaaGreatDoor
open Go.RowKit
namespace Load
open Kind (Tab2)
open Kind
end Load
end Go.Proofs.YtddlaafpianjbaaGreatDoor

/- Package load: what Make and Take of both sides answer. -/
namespace Go.Proofs.YtddlaafpianjbaaGreatDoor
open Go.RowKit
namespace Load
open Kind (Tab2)
open Kind
/-- the number of bits, in two bytes -/
def PL (n : Int) : ByteArray := bs (RefOct.low n 2)
def PLD (key pads : ByteArray) : ByteArray := bs (RefOct.low (8 * (key.size : Int)) 2 ++ key.data.toList ++ pads.data.toList)
theorem PL_size (n : Int) : (PL n).size = 2 := by unfold PL; rw [size_bs, RefOct.low_len]
theorem put2 (n : Int) (h0 : 0 ≤ n) (h1 : n ≤ 100000) : Mak 57 #[.int .u64 n, .int .i64 2] (.string (PL n)) := fun w => by
  have h := Oct.put_mid n 2 w (by omega) (by omega) (by decide) (by decide)
  rw [RefOct.put_same n 2 (by decide)] at h
  exact h
theorem rput2 (n : Int) (h0 : 0 ≤ n) (h1 : n ≤ 100000) : Mak 62 #[.int .u64 n, .int .i64 2] (.string (PL n)) := fun w => by
  have h := RefOct.put_mid n 2 w (by omega) (by omega) (by decide) (by decide)
  exact h
/-- what Make answers -/
def makeV (no : Int) (key pads : ByteArray) (X : ByteArray) (E : Int) : Prop :=
  (E = 0 ∧ chkE (rowOf no) key.data.toList = 0 ∧ (pads.size : Int) = padsI (rowOf no) ∧ X = PLD key pads) ∨ ((E != 0) = true ∧ X = ⟨#[]⟩)
theorem pld_cat (key pads : ByteArray) : PLD key pads = bs (Oct.cat [PL (8 * (key.size : Int)), key, pads]) := by
  unfold PLD Oct.cat PL; congr 1; simp [list_bs]
theorem pld_app (key pads : ByteArray) : PL (8 * (key.size : Int)) ++ key ++ pads = PLD key pads := by
  apply ba_ext; unfold PLD PL; rw [app_list, app_list, list_bs, list_bs]
theorem pld_size (key pads : ByteArray) : (PLD key pads).size = 2 + key.size + pads.size := by
  unfold PLD; rw [size_bs, List.length_append, List.length_append, RefOct.low_len]; rfl
theorem make_yes (no : Int) (key pads : ByteArray) (hk : key.size ≤ 300) (hp : pads.size ≤ 300) (h0 : chkE (rowOf no) key.data.toList = 0) (h1 : (pads.size : Int) = padsI (rowOf no)) :
    KMk Tab2 27 #[.int .i64 no, .string key, .string pads] (.tuple #[.string (PLD key pads), .int .i64 0]) ∧ Mak 30 #[.int .i64 no, .string key, .string pads] (.tuple #[.string (PLD key pads), .int .i64 0]) := by
  have hz := pld_size key pads
  have c1 := check_k no key (by omega) _ rfl
  have r1 := rcheck_mak no key (by omega) _ rfl
  have c2 := pads_k no _ rfl
  have r2 := rpads_ret no _ rfl
  rw [h0] at c1 r1
  rw [← h1] at c2 r2
  exact ⟨make_ok no key pads (PL (8 * (key.size : Int))) (PLD key pads) (by omega) (pld_cat key pads) (by omega) c1 c2 (put2 _ (by omega) (by omega)),
    rmake_ok no key pads (PL (8 * (key.size : Int))) (PL (8 * (key.size : Int)) ++ key) (PLD key pads) (by omega) (by omega) (by rw [PL_size]; decide) rfl (by rw [ByteArray.size_append, PL_size]; omega) (pld_app key pads) r1 r2 (rput2 _ (by omega) (by omega))⟩
theorem low2 (a c : UInt8) (b : Int) (hb : (256 : Int) * (a.toNat : Int) + (c.toNat : Int) = b) : RefOct.low b 2 = [a, c] := by
  have ha := a.toNat_lt
  have hc := c.toNat_lt
  have e1 : (b / 2 ^ (8 * 1) % 256).toNat = a.toNat := by omega
  have e2 : (b / 2 ^ (8 * 0) % 256).toNat = c.toNat := by omega
  show [UInt8.ofNat (b / 2 ^ (8 * 1) % 256).toNat, UInt8.ofNat (b / 2 ^ (8 * 0) % 256).toNat] = [a, c]
  rw [e1, e2]; simp
/-- what Take answers -/
def takeV (l s : ByteArray) (k : Int) (x p : ByteArray) (E : Int) : Prop :=
  (E = 0 ∧ chkE (rowOf k) x.data.toList = 0 ∧ (p.size : Int) = padsI (rowOf k) ∧ s = PLD x p ∧ x.size ≤ s.size ∧ p.size ≤ s.size ∧ (rowOf k).2.2.1 = l.data.toList) ∨ ((E != 0) = true ∧ k = 0 ∧ x = ⟨#[]⟩ ∧ p = ⟨#[]⟩)
end Load
end Go.Proofs.YtddlaafpianjbaaGreatDoor
