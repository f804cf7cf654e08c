/- Joined texts. -/
-- PACK: YtgfdomdbjiflmaaDoorCurve3 YtgfdomdbjiflmaaDoorRefCurve YtgfdomdbjiflmaaDoorRefCurve2 YtgfdomdbjiflmaaDoorKind3 YtgfdomdbjiflmaaDoorRefKind YtgfdomdbjiflmaaDoorKindChk
import Derived.Test.YtgfdomdbjiflmaaDoorDj34
import Derived.Test.YtgfdomdbjiflmaaDoorDj17
import Derived.Test.YtgfdomdbjiflmaaDoorDj13
import Derived.Test.YtgfdomdbjiflmaaDoorDj20

/- Package curve: scalars; and the reference. -/
namespace Go.Proofs.YtgfdomdbjiflmaaDoor
open Go.RowKit
namespace Curve
set_option maxRecDepth 100000 in
theorem scalar_e (no : Int) : Ret 90 #[.int .i64 no, .string ⟨#[]⟩] (.bool false) := by
  intro w
  go_enter Tryd.func90, Tryd.ntmps90
  go_wp2_with fail
  go_ret
  exact ⟨rfl, rfl⟩
set_option maxRecDepth 100000 in
theorem scalar_w (no n : Int) (s : ByteArray) (hs : 0 < s.size) (hz : ((s.size : Int) == n) = false) (c1 : KMk Tabs 104 #[.int .i64 no] (.int .i64 n)) : KMk Tabs 90 #[.int .i64 no, .string s] (.bool false) := by
  intro w hT
  have HS := Lib.hid (Since.refl w)
  have HT := Lib.hid hT
  have b1 := some_bytes s hs
  have b2 := some_bytes_f s hs
  clear hT
  go_enter Tryd.func90, Tryd.ntmps90
  go_wp2_with fail
  repeat (first
    | (with_reducible refine c1.calls0 HT.out ?_; intro wz hz; replace HT := Lib.hid (Kp.keep HT.out hz); replace HS := Lib.hid (HS.out.step hz); clear hz; try go_wp2_with fail))
  go_ret
  exact ⟨rfl, HS.out⟩
set_option maxRecDepth 100000 in
theorem scalar_y (no n : Int) (s : ByteArray) (hs : 0 < s.size) (hz : ((s.size : Int) == n) = true) (c1 : KMk Tabs 104 #[.int .i64 no] (.int .i64 n)) (c2 : Mak 105 #[.string s, .string ⟨#[0]⟩] (.string ⟨#[]⟩)) : KMk Tabs 90 #[.int .i64 no, .string s] (.bool false) := by
  intro w hT
  have HS := Lib.hid (Since.refl w)
  have HT := Lib.hid hT
  have b1 := some_bytes s hs
  have b2 := some_bytes_f s hs
  clear hT
  go_enter Tryd.func90, Tryd.ntmps90
  go_wp2_with fail
  repeat (first
    | (with_reducible refine c1.calls0 HT.out ?_; intro wz hz; replace HT := Lib.hid (Kp.keep HT.out hz); replace HS := Lib.hid (HS.out.step hz); clear hz; try go_wp2_with fail)
    | (with_reducible refine c2.calls0 ?_; intro wz hz; replace HT := Lib.hid (Kp.keep HT.out hz); replace HS := Lib.hid (HS.out.step hz); clear hz; try go_wp2_with fail))
  go_ret
  exact ⟨rfl, HS.out⟩
set_option maxRecDepth 100000 in
theorem scalar_l (no n : Int) (s Y Z : ByteArray) (q : Bool) (hs : 0 < s.size) (hy : 0 < Y.size) (hz : ((s.size : Int) == n) = true) (hq : Op.bytesLess s.toList Z.toList = q) (c1 : KMk Tabs 104 #[.int .i64 no] (.int .i64 n)) (c2 : Mak 105 #[.string s, .string ⟨#[0]⟩] (.string Y)) (c3 : KMk Tabs 106 #[.int .i64 no] (.string Z)) : KMk Tabs 90 #[.int .i64 no, .string s] (.bool q) := by
  intro w hT
  have HS := Lib.hid (Since.refl w)
  have HT := Lib.hid hT
  have b1 := some_bytes s hs
  have b2 := some_bytes_f s hs
  have b3 := some_bytes Y hy
  have b4 := some_bytes_f Y hy
  clear hT
  cases q
  all_goals
    go_enter Tryd.func90, Tryd.ntmps90
    go_wp2_with fail
    repeat (first
      | (with_reducible refine c1.calls0 HT.out ?_; intro wz hz; replace HT := Lib.hid (Kp.keep HT.out hz); replace HS := Lib.hid (HS.out.step hz); clear hz; try go_wp2_with fail)
      | (with_reducible refine c2.calls0 ?_; intro wz hz; replace HT := Lib.hid (Kp.keep HT.out hz); replace HS := Lib.hid (HS.out.step hz); clear hz; try go_wp2_with fail)
      | (with_reducible refine c3.calls0 HT.out ?_; intro wz hz; replace HT := Lib.hid (Kp.keep HT.out hz); replace HS := Lib.hid (HS.out.step hz); clear hz; try go_wp2_with fail))
    go_ret
    exact ⟨rfl, HS.out⟩
/-- is s a private key of the curve of a line? -/
def scB (r : Row) (s : List UInt8) : Bool := decide (s ≠ []) && decide ((s.length : Int) = r.2.1) && s.any (· != 0) && Op.bytesLess s (ordS r).data.toList
theorem any_trim (s : List UInt8) : s.any (· != 0) = !(Trim.left 0 (Trim.right 0 s)).isEmpty := by
  rw [Bool.eq_iff_iff, List.any_eq_true, Bool.not_eq_true', List.isEmpty_eq_false_iff]
  constructor
  · rintro ⟨x, hx, h2⟩ h3
    exact (bne_iff_ne.1 h2) ((Trim.trim_all 0 s).1 h3 x hx)
  · intro h
    apply Classical.byContradiction
    intro h2
    refine h ((Trim.trim_all 0 s).2 fun x hx => Classical.byContradiction fun h3 => h2 ⟨x, hx, by rw [bne_iff_ne]; exact h3⟩)
theorem scalar_k (no : Int) (s : ByteArray) (hm : s.size ≤ 140737488355328) (q : Bool) (hq : q = scB (rowOf no) s.data.toList) : KMk Tabs 90 #[.int .i64 no, .string s] (.bool q) := by
  have hl : s.data.toList.length = s.size := rfl
  have c1 := width_k no _ rfl
  have c3 := order_k no _ rfl
  have c2 := Trim.trim_mak s hm 0 (by decide) _ rfl
  unfold scB at hq
  by_cases hs : 0 < s.size
  · rw [decide_eq_true (show s.data.toList ≠ [] from fun h => by rw [h] at hl; have h9 : ([] : List UInt8).length = 0 := rfl; omega), Bool.true_and, hl] at hq
    by_cases hz : (s.size : Int) = (rowOf no).2.1
    · rw [decide_eq_true hz, Bool.true_and, any_trim] at hq
      by_cases hy : Trim.left 0 (Trim.right 0 s.data.toList) = []
      · rw [hy] at hq c2
        have : q = false := hq
        subst this
        exact scalar_y no _ s hs (beq_iff_eq.2 hz) c1 c2
      · have h3 : (Trim.left 0 (Trim.right 0 s.data.toList)).isEmpty = false := by rw [List.isEmpty_eq_false_iff]; exact hy
        rw [h3, Bool.not_false, Bool.true_and] at hq
        refine scalar_l no _ s _ _ q hs ?_ (beq_iff_eq.2 hz) (by rw [toList_d, toList_d]; exact hq.symm) c1 c2 c3
        show 0 < (bs (Trim.left 0 (Trim.right 0 s.data.toList))).data.toList.length
        rw [list_bs]
        exact List.length_pos_iff.2 hy
    · rw [decide_eq_false hz] at hq
      have : q = false := hq
      subst this
      exact scalar_w no _ s hs (beq_eq_false_iff_ne.2 hz) c1
  · obtain rfl : s = ⟨#[]⟩ := ba_ext (List.eq_nil_of_length_eq_zero (by omega))
    have : q = false := hq
    subst this
    exact (scalar_e no).k
end Curve
end Go.Proofs.YtgfdomdbjiflmaaDoor

/- The reference of layer 22. -/
namespace Go.Proofs.YtgfdomdbjiflmaaDoor
open Go.RowKit
namespace Curve
/-- no more than what is made -/
def KAll : World → Prop := fun _ => True
instance : Kp KAll := ⟨fun _ _ => trivial⟩
end Curve
end Go.Proofs.YtgfdomdbjiflmaaDoor

/- The reference of layer 22: what is found, scalars; what the laws call awake. -/
namespace Go.Proofs.YtgfdomdbjiflmaaDoor
open Go.RowKit
namespace Curve
theorem rowOf_at (i : Nat) (r : Row) (h : rows[i]? = some r) : rowOf ((i : Int) + 1) = r := by
  have hi : i < 4 := (List.getElem?_eq_some_iff.1 h).1
  unfold rowOf
  rw [if_pos (by omega), show ((i : Int) + 1 - 1).toNat = i by omega, h]
  rfl
theorem fndL_step (p : Row → Bool) (k : Nat) (r : Row) (h : rows[k]? = some r) (x : Int × Bool) (hx : fndL p (rows.drop k) k = x) : (if p r then ((k : Int) + 1, true) else fndL p (rows.drop (k + 1)) (k + 1)) = x := by
  have hk : k < rows.length := (List.getElem?_eq_some_iff.1 h).1
  rw [List.drop_eq_getElem_cons hk, (List.getElem?_eq_some_iff.1 h).2] at hx
  exact hx
theorem fndL_congr (p p' : Row → Bool) : ∀ (l : List Row) (k : Nat), (∀ r ∈ l, p r = p' r) → fndL p l k = fndL p' l k := by
  intro l
  induction l with
  | nil => intro k _; rfl
  | cons r l ih =>
    intro k h
    unfold fndL
    rw [h r (by simp), ih (k + 1) (fun x hx => h x (by simp [hx]))]
theorem Tabs.since {w w' : World} (h : Tabs w) (hs : Since w w') : Tabs w' := Kp.keep h hs
set_option maxRecDepth 100000 in
theorem KMkI.calls0 {K : World → Prop} {f : Nat} {args : Array Value} {xs : List Int} (h : KMkI K f args xs) {w : World} (hT : K w) {R : Ending → World → Prop} (k : ∀ v w', IntsS w' v xs → Since w w' → R (.returned v) w') : Calls Tryd.prog f args w R :=
  (h w hT).mono fun _ _ ⟨v, he, hi, hb⟩ => by subst he; exact k v _ hi hb
/-- calls that are handed ints, while K holds -/
def KRdI (K : World → Prop) (f : Nat) (xs : List Int) (v : Value) : Prop := ∀ w x, IntsS w x xs → K w → Calls Tryd.prog f #[x] w fun e w' => e = .returned v ∧ Below w.heap.size w w'
set_option maxRecDepth 100000 in
theorem KRdI.calls0 {K : World → Prop} {f : Nat} {xs : List Int} {v x : Value} (h : KRdI K f xs v) {w : World} (hx : IntsS w x xs) (hT : K w) {R : Ending → World → Prop} (k : ∀ w', Since w w' → R (.returned v) w') : Calls Tryd.prog f #[x] w R :=
  (h w x hx hT).mono fun _ _ ⟨he, hb⟩ => by subst he; exact k _ hb
end Curve
end Go.Proofs.YtgfdomdbjiflmaaDoor

/- Package kind: By, Of and Check; the reference. -/
namespace Go.Proofs.YtgfdomdbjiflmaaDoor
open Go.RowKit
namespace Kind
open Curve (KMkI KS KI)
theorem Tabs.since {w w' : World} (h : Tabs w) (hs : Since w w') : Tabs w' := Kp.keep h hs
def KBy (b b1 b2 : Nat) (s : ByteArray) (cu si : Int) : World → Prop := fun w => Tabs w ∧ KS b s w ∧ KI b1 cu w ∧ KI b2 si w
instance (b b1 b2 : Nat) (s : ByteArray) (cu si : Int) : Kp (KBy b b1 b2 s cu si) := ⟨fun h hb => ⟨Kp.keep h.1 hb, Kp.keep h.2.1 hb, Kp.keep h.2.2.1 hb, Kp.keep h.2.2.2 hb⟩⟩
def KOf (b b1 : Nat) (s : ByteArray) (si : Int) : World → Prop := fun w => Tabs w ∧ KS b s w ∧ KI b1 si w
instance (b b1 : Nat) (s : ByteArray) (si : Int) : Kp (KOf b b1 s si) := ⟨fun h hb => ⟨Kp.keep h.1 hb, Kp.keep h.2.1 hb, Kp.keep h.2.2 hb⟩⟩
def takes (s : List UInt8) (cu si : Int) (r : Row) : Bool := (r.2.2.2.2 == s) && (r.2.2.2.1 == cu) && (r.2.1 == si)
def wants (s : List UInt8) (si : Int) (r : Row) : Bool := (r.2.2.1 == s) && (r.2.1 == si)
def KRdI3 (K : World → Prop) (f : Nat) (xs : List Int) (a b : Int) (v : Value) : Prop := ∀ w x, IntsS w x xs → K w → Calls Tryd.prog f #[x, .int .i64 a, .int .i64 b] w fun e w' => e = .returned v ∧ Below w.heap.size w w'
set_option maxRecDepth 100000 in
theorem KRdI3.calls0 {K : World → Prop} {f : Nat} {xs : List Int} {a b : Int} {v x : Value} (h : KRdI3 K f xs a b v) {w : World} (hx : IntsS w x xs) (hT : K w) {R : Ending → World → Prop} (k : ∀ w', Since w w' → R (.returned v) w') : Calls Tryd.prog f #[x, .int .i64 a, .int .i64 b] w R :=
  (h w x hx hT).mono fun _ _ ⟨he, hb⟩ => by subst he; exact k _ hb
end Kind
end Go.Proofs.YtgfdomdbjiflmaaDoor

/- The reference of layer 23; kind.Check. -/
namespace Go.Proofs.YtgfdomdbjiflmaaDoor
open Go.RowKit
namespace Kind
open Curve (KMkI KAll)
theorem rowOf_at (i : Nat) (r : Row) (h : rows[i]? = some r) : rowOf ((i : Int) + 1) = r := by
  have hi : i < 11 := (List.getElem?_eq_some_iff.1 h).1
  unfold rowOf
  rw [if_pos (by omega), show ((i : Int) + 1 - 1).toNat = i by omega, h]
  rfl
theorem fndL_step (p : Row → Bool) (k : Nat) (r : Row) (h : rows[k]? = some r) (x : Int × Bool) (hx : fndL p (rows.drop k) k = x) : (if p r then ((k : Int) + 1, true) else fndL p (rows.drop (k + 1)) (k + 1)) = x := by
  have hk : k < rows.length := (List.getElem?_eq_some_iff.1 h).1
  rw [List.drop_eq_getElem_cons hk, (List.getElem?_eq_some_iff.1 h).2] at hx
  exact hx
def RdI3 (f : Nat) (xs : List Int) (a b : Int) (v : Value) : Prop := ∀ w x, IntsS w x xs → Calls Tryd.prog f #[x, .int .i64 a, .int .i64 b] w fun e w' => e = .returned v ∧ Below w.heap.size w w'
set_option maxRecDepth 100000 in
theorem RdI3.calls0 {f : Nat} {xs : List Int} {a b : Int} {v x : Value} (h : RdI3 f xs a b v) {w : World} (hx : IntsS w x xs) {R : Ending → World → Prop} (k : ∀ w', Since w w' → R (.returned v) w') : Calls Tryd.prog f #[x, .int .i64 a, .int .i64 b] w R :=
  (h w x hx).mono fun _ _ ⟨he, hb⟩ => by subst he; exact k _ hb
end Kind
end Go.Proofs.YtgfdomdbjiflmaaDoor

/- kind.Check, and the reference's; what the laws of layer 23 call awake. -/
namespace Go.Proofs.YtgfdomdbjiflmaaDoor
open Go.RowKit
namespace Kind
open Curve (KMkI KAll)
/-- both tables -/
def Tab2 : World → Prop := fun w => Tabs w ∧ Curve.Tabs w
instance : Kp Tab2 := ⟨fun h hb => ⟨Kp.keep h.1 hb, Kp.keep h.2 hb⟩⟩
theorem Tab2.since {w w' : World} (h : Tab2 w) (hs : Since w w') : Tab2 w' := Kp.keep h hs
theorem KMk.t2 {f : Nat} {args : Array Value} {v : Value} (h : KMk Tabs f args v) : KMk Tab2 f args v := h.weak (fun _ h => h.1)
/-- why a key is none of a line's kind -/
def chkE (r : Row) (s : List UInt8) : Int := if r.2.1 = 0 then 8 else if (s.length : Int) ≠ r.2.1 then 9 else if r.2.2.2.1 ≠ 0 ∧ Curve.scB (Curve.rowOf r.2.2.2.1) s = false then 10 else 0
set_option maxRecDepth 100000 in
theorem chk_0 (no : Int) (s : ByteArray) (x y z : ByteArray) (n c : Int) (hn : (n == 0) = true) (c1 : KMk Tab2 89 #[.int .i64 no] (.agg #[.string x, .int .i64 n, .string y, .int .i64 c, .string z])) : KMk Tab2 75 #[.int .i64 no, .string s] (.int .i64 8) := by
  intro w hT
  go_enter Tryd.func75, Tryd.ntmps75
  go_wp2_with fail
  refine c1.calls0 hT ?_
  intro w1 h1
  have HSB := Lib.hid (Since.alloc h1 (.cells #[.string x, .int .i64 n, .string y, .int .i64 c, .string z] 118))
  clear hT h1
  go_wp2_with fail
  go_ret
  exact ⟨rfl, HSB.out⟩
set_option maxRecDepth 100000 in
theorem chk_l (no : Int) (s : ByteArray) (x y z : ByteArray) (n c : Int) (hn : (n == 0) = false) (hl : ((s.size : Int) != n) = true) (c1 : KMk Tab2 89 #[.int .i64 no] (.agg #[.string x, .int .i64 n, .string y, .int .i64 c, .string z])) : KMk Tab2 75 #[.int .i64 no, .string s] (.int .i64 9) := by
  intro w hT
  go_enter Tryd.func75, Tryd.ntmps75
  go_wp2_with fail
  refine c1.calls0 hT ?_
  intro w1 h1
  have HSB := Lib.hid (Since.alloc h1 (.cells #[.string x, .int .i64 n, .string y, .int .i64 c, .string z] 118))
  clear hT h1
  go_wp2_with fail
  go_ret
  exact ⟨rfl, HSB.out⟩
set_option maxRecDepth 100000 in
theorem chk_n (no : Int) (s : ByteArray) (x y z : ByteArray) (n c : Int) (hn : (n == 0) = false) (hl : ((s.size : Int) != n) = false) (hc : (c != 0) = false) (c1 : KMk Tab2 89 #[.int .i64 no] (.agg #[.string x, .int .i64 n, .string y, .int .i64 c, .string z])) : KMk Tab2 75 #[.int .i64 no, .string s] (.int .i64 0) := by
  intro w hT
  go_enter Tryd.func75, Tryd.ntmps75
  go_wp2_with fail
  refine c1.calls0 hT ?_
  intro w1 h1
  have HSB := Lib.hid (Since.alloc h1 (.cells #[.string x, .int .i64 n, .string y, .int .i64 c, .string z] 118))
  clear hT h1
  go_wp2_with fail
  go_ret
  exact ⟨rfl, HSB.out⟩
set_option maxRecDepth 100000 in
theorem chk_f (no : Int) (s : ByteArray) (x y z : ByteArray) (n c : Int) (hn : (n == 0) = false) (hl : ((s.size : Int) != n) = false) (hc : (c != 0) = true) (c1 : KMk Tab2 89 #[.int .i64 no] (.agg #[.string x, .int .i64 n, .string y, .int .i64 c, .string z])) (c2 : KMk Tab2 90 #[.int .i64 c, .string s] (.bool false)) : KMk Tab2 75 #[.int .i64 no, .string s] (.int .i64 10) := by
  intro w hT
  go_enter Tryd.func75, Tryd.ntmps75
  go_wp2_with fail
  refine c1.calls0 hT ?_
  intro w1 h1
  have HSB := Lib.hid (Since.alloc h1 (.cells #[.string x, .int .i64 n, .string y, .int .i64 c, .string z] 118))
  have HTB := Lib.hid (Kp.keep hT HSB.out)
  clear hT h1
  go_wp2_with fail
  refine c2.calls0 HTB.out ?_
  intro w2 h2
  have HSC := Lib.hid (HSB.out.step h2)
  clear h2
  go_wp2_with fail
  go_ret
  exact ⟨rfl, HSC.out⟩
set_option maxRecDepth 100000 in
theorem chk_t (no : Int) (s : ByteArray) (x y z : ByteArray) (n c : Int) (hn : (n == 0) = false) (hl : ((s.size : Int) != n) = false) (hc : (c != 0) = true) (c1 : KMk Tab2 89 #[.int .i64 no] (.agg #[.string x, .int .i64 n, .string y, .int .i64 c, .string z])) (c2 : KMk Tab2 90 #[.int .i64 c, .string s] (.bool true)) : KMk Tab2 75 #[.int .i64 no, .string s] (.int .i64 0) := by
  intro w hT
  go_enter Tryd.func75, Tryd.ntmps75
  go_wp2_with fail
  refine c1.calls0 hT ?_
  intro w1 h1
  have HSB := Lib.hid (Since.alloc h1 (.cells #[.string x, .int .i64 n, .string y, .int .i64 c, .string z] 118))
  have HTB := Lib.hid (Kp.keep hT HSB.out)
  clear hT h1
  go_wp2_with fail
  refine c2.calls0 HTB.out ?_
  intro w2 h2
  have HSC := Lib.hid (HSB.out.step h2)
  clear h2
  go_wp2_with fail
  go_ret
  exact ⟨rfl, HSC.out⟩
theorem check_k (no : Int) (s : ByteArray) (hm : s.size ≤ 140737488355328) (E : Int) (hE : E = chkE (rowOf no) s.data.toList) : KMk Tab2 75 #[.int .i64 no, .string s] (.int .i64 E) := by
  subst hE
  have c1 := KMk.t2 (by_k no)
  unfold rowV at c1
  unfold chkE
  have hl : s.data.toList.length = s.size := rfl
  rw [hl]
  by_cases h0 : (rowOf no).2.1 = 0
  · rw [if_pos h0]; exact chk_0 no s _ _ _ _ _ (beq_iff_eq.2 h0) c1
  · rw [if_neg h0]
    by_cases h1 : (s.size : Int) ≠ (rowOf no).2.1
    · rw [if_pos h1]; exact chk_l no s _ _ _ _ _ (beq_eq_false_iff_ne.2 h0) (bne_iff_ne.2 h1) c1
    · have h1' : (s.size : Int) = (rowOf no).2.1 := by omega
      rw [if_neg h1]
      by_cases h2 : (rowOf no).2.2.2.1 = 0
      · rw [if_neg (fun h => h.1 h2)]; exact chk_n no s _ _ _ _ _ (beq_eq_false_iff_ne.2 h0) (bne_eq_false_iff_eq.2 h1') (bne_eq_false_iff_eq.2 h2) c1
      · have c2 : KMk Tab2 90 #[.int .i64 (rowOf no).2.2.2.1, .string s] (.bool (Curve.scB (Curve.rowOf (rowOf no).2.2.2.1) s.data.toList)) := (Curve.scalar_k _ s hm _ rfl).weak (fun _ h => h.2)
        cases hq : Curve.scB (Curve.rowOf (rowOf no).2.2.2.1) s.data.toList with
        | false =>
          rw [hq] at c2
          rw [if_pos ⟨h2, rfl⟩]; exact chk_f no s _ _ _ _ _ (beq_eq_false_iff_ne.2 h0) (bne_eq_false_iff_eq.2 h1') (bne_iff_ne.2 h2) c1 c2
        | true =>
          rw [hq] at c2
          rw [if_neg (fun h => by cases h.2)]; exact chk_t no s _ _ _ _ _ (beq_eq_false_iff_ne.2 h0) (bne_eq_false_iff_eq.2 h1') (bne_iff_ne.2 h2) c1 c2
theorem row_curve (no : Int) : 0 ≤ (rowOf no).2.2.2.1 := by
  unfold rowOf
  split
  · rename_i h
    have hall : ∀ r ∈ rows, 0 ≤ r.2.2.2.1 := by decide +kernel
    cases hr : rows[(no - 1).toNat]? with
    | none => exact Int.le_refl 0
    | some r => exact hall r (List.mem_of_getElem? hr)
  · exact Int.le_refl 0
set_option maxRecDepth 100000 in
theorem tabs4_of {W : World} (h : laidMetH Tryd.prog [("unicode/utf8.acceptRanges", Rows.laid_unicode_utf8_acceptRanges), ("claviger/curve.lines", Rows.laid_claviger_curve_lines), ("claviger/kind.lines", Rows.laid_claviger_kind_lines), ("unicode/utf8.first", Rows.laid_unicode_utf8_first)] W) : Tab2 W := by
  rw [MakeChecks.laidMetH_plain _ _ _ (by kernel_rfl)] at h
  obtain ⟨ps, ⟨_, _, _, _, _, _, _, _, _, _, ⟨g0, t0, cs0, f0, p0, q0, hg0, ht0, hv0, hd0, ⟨g1, t1, cs1, f1, p1, q1, hg1, ht1, hv1, hd1, _, _⟩, _⟩, _⟩, _, _⟩ := h
  exact ⟨tabs_at hg1 ht1 hv1 hd1, Curve.tabs_at hg0 ht0 hv0 hd0⟩
end Kind
end Go.Proofs.YtgfdomdbjiflmaaDoor
