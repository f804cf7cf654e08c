/- Joined texts. -/
-- PACK: YtgfdomdbjiflmaaGreatDoorCurve3 YtgfdomdbjiflmaaGreatDoorRefCurve YtgfdomdbjiflmaaGreatDoorRefCurve2 YtgfdomdbjiflmaaGreatDoorKind3 YtgfdomdbjiflmaaGreatDoorRefKind YtgfdomdbjiflmaaGreatDoorKindChk
import Derived.Test.YtgfdomdbjiflmaaGreatDoorKv34
import Derived.Test.YtgfdomdbjiflmaaGreatDoorKv17
import Derived.Test.YtgfdomdbjiflmaaGreatDoorKv13
import Derived.Test.YtgfdomdbjiflmaaGreatDoorKv20

/- Package curve: scalars; and the reference. -/
namespace Go.Proofs.YtgfdomdbjiflmaaGreatDoor
open Go.RowKit
namespace Curve
set_option maxRecDepth 100000 in
theorem scalar_e (no : Int) : Ret 85 #[.int .i64 no, .string ⟨#[]⟩] (.bool false) := by
  intro w
  go_enter Tryz.func85, Tryz.ntmps85
  go_wp2_with fail
  go_ret
  exact ⟨rfl, rfl⟩
set_option maxRecDepth 100000 in
theorem scalar_w (no n : Int) (s : ByteArray) (hs : 0 < s.size) (hz : ((s.size : Int) == n) = false) (c1 : KMk Tabs 113 #[.int .i64 no] (.int .i64 n)) : KMk Tabs 85 #[.int .i64 no, .string s] (.bool false) := by
  intro w hT
  have HS := Lib.hid (Since.refl w)
  have HT := Lib.hid hT
  have b1 := some_bytes s hs
  have b2 := some_bytes_f s hs
  clear hT
  go_enter Tryz.func85, Tryz.ntmps85
  go_wp2_with fail
  repeat (first
    | (with_reducible refine c1.calls0 HT.out ?_; intro wz hz; replace HT := Lib.hid (Kp.keep HT.out hz); replace HS := Lib.hid (HS.out.step hz); clear hz; try go_wp2_with fail))
  go_ret
  exact ⟨rfl, HS.out⟩
set_option maxRecDepth 100000 in
theorem scalar_y (no n : Int) (s : ByteArray) (hs : 0 < s.size) (hz : ((s.size : Int) == n) = true) (c1 : KMk Tabs 113 #[.int .i64 no] (.int .i64 n)) (c2 : Mak 114 #[.string s, .string ⟨#[0]⟩] (.string ⟨#[]⟩)) : KMk Tabs 85 #[.int .i64 no, .string s] (.bool false) := by
  intro w hT
  have HS := Lib.hid (Since.refl w)
  have HT := Lib.hid hT
  have b1 := some_bytes s hs
  have b2 := some_bytes_f s hs
  clear hT
  go_enter Tryz.func85, Tryz.ntmps85
  go_wp2_with fail
  repeat (first
    | (with_reducible refine c1.calls0 HT.out ?_; intro wz hz; replace HT := Lib.hid (Kp.keep HT.out hz); replace HS := Lib.hid (HS.out.step hz); clear hz; try go_wp2_with fail)
    | (with_reducible refine c2.calls0 ?_; intro wz hz; replace HT := Lib.hid (Kp.keep HT.out hz); replace HS := Lib.hid (HS.out.step hz); clear hz; try go_wp2_with fail))
  go_ret
  exact ⟨rfl, HS.out⟩
set_option maxRecDepth 100000 in
theorem scalar_l (no n : Int) (s Y Z : ByteArray) (q : Bool) (hs : 0 < s.size) (hy : 0 < Y.size) (hz : ((s.size : Int) == n) = true) (hq : Op.bytesLess s.toList Z.toList = q) (c1 : KMk Tabs 113 #[.int .i64 no] (.int .i64 n)) (c2 : Mak 114 #[.string s, .string ⟨#[0]⟩] (.string Y)) (c3 : KMk Tabs 115 #[.int .i64 no] (.string Z)) : KMk Tabs 85 #[.int .i64 no, .string s] (.bool q) := by
  intro w hT
  have HS := Lib.hid (Since.refl w)
  have HT := Lib.hid hT
  have b1 := some_bytes s hs
  have b2 := some_bytes_f s hs
  have b3 := some_bytes Y hy
  have b4 := some_bytes_f Y hy
  clear hT
  cases q
  all_goals
    go_enter Tryz.func85, Tryz.ntmps85
    go_wp2_with fail
    repeat (first
      | (with_reducible refine c1.calls0 HT.out ?_; intro wz hz; replace HT := Lib.hid (Kp.keep HT.out hz); replace HS := Lib.hid (HS.out.step hz); clear hz; try go_wp2_with fail)
      | (with_reducible refine c2.calls0 ?_; intro wz hz; replace HT := Lib.hid (Kp.keep HT.out hz); replace HS := Lib.hid (HS.out.step hz); clear hz; try go_wp2_with fail)
      | (with_reducible refine c3.calls0 HT.out ?_; intro wz hz; replace HT := Lib.hid (Kp.keep HT.out hz); replace HS := Lib.hid (HS.out.step hz); clear hz; try go_wp2_with fail))
    go_ret
    exact ⟨rfl, HS.out⟩
/-- is s a private key of the curve of a line? -/
def scB (r : Row) (s : List UInt8) : Bool := decide (s ≠ []) && decide ((s.length : Int) = r.2.1) && s.any (· != 0) && Op.bytesLess s (ordS r).data.toList
theorem any_trim (s : List UInt8) : s.any (· != 0) = !(Trim.left 0 (Trim.right 0 s)).isEmpty := by
  rw [Bool.eq_iff_iff, List.any_eq_true, Bool.not_eq_true', List.isEmpty_eq_false_iff]
  constructor
  · rintro ⟨x, hx, h2⟩ h3
    exact (bne_iff_ne.1 h2) ((Trim.trim_all 0 s).1 h3 x hx)
  · intro h
    apply Classical.byContradiction
    intro h2
    refine h ((Trim.trim_all 0 s).2 fun x hx => Classical.byContradiction fun h3 => h2 ⟨x, hx, by rw [bne_iff_ne]; exact h3⟩)
theorem scalar_k (no : Int) (s : ByteArray) (hm : s.size ≤ 140737488355328) (q : Bool) (hq : q = scB (rowOf no) s.data.toList) : KMk Tabs 85 #[.int .i64 no, .string s] (.bool q) := by
  have hl : s.data.toList.length = s.size := rfl
  have c1 := width_k no _ rfl
  have c3 := order_k no _ rfl
  have c2 := Trim.trim_mak s hm 0 (by decide) _ rfl
  unfold scB at hq
  by_cases hs : 0 < s.size
  · rw [decide_eq_true (show s.data.toList ≠ [] from fun h => by rw [h] at hl; have h9 : ([] : List UInt8).length = 0 := rfl; omega), Bool.true_and, hl] at hq
    by_cases hz : (s.size : Int) = (rowOf no).2.1
    · rw [decide_eq_true hz, Bool.true_and, any_trim] at hq
      by_cases hy : Trim.left 0 (Trim.right 0 s.data.toList) = []
      · rw [hy] at hq c2
        have : q = false := hq
        subst this
        exact scalar_y no _ s hs (beq_iff_eq.2 hz) c1 c2
      · have h3 : (Trim.left 0 (Trim.right 0 s.data.toList)).isEmpty = false := by rw [List.isEmpty_eq_false_iff]; exact hy
        rw [h3, Bool.not_false, Bool.true_and] at hq
        refine scalar_l no _ s _ _ q hs ?_ (beq_iff_eq.2 hz) (by rw [toList_d, toList_d]; exact hq.symm) c1 c2 c3
        show 0 < (bs (Trim.left 0 (Trim.right 0 s.data.toList))).data.toList.length
        rw [list_bs]
        exact List.length_pos_iff.2 hy
    · rw [decide_eq_false hz] at hq
      have : q = false := hq
      subst this
      exact scalar_w no _ s hs (beq_eq_false_iff_ne.2 hz) c1
  · obtain rfl : s = ⟨#[]⟩ := ba_ext (List.eq_nil_of_length_eq_zero (by omega))
    have : q = false := hq
    subst this
    exact (scalar_e no).k
end Curve
end Go.Proofs.YtgfdomdbjiflmaaGreatDoor

/- The reference of layer 22. -/
namespace Go.Proofs.YtgfdomdbjiflmaaGreatDoor
open Go.RowKit
namespace Curve
set_option maxRecDepth 100000 in
theorem rw_1 : Ret 122 #[.int .i64 1] (.int .i64 28) := by
  intro w
  go_enter Tryz.func122, Tryz.ntmps122
  go_wp2_with fail
  go_ret
  exact ⟨rfl, rfl⟩
set_option maxRecDepth 100000 in
theorem rw_2 : Ret 122 #[.int .i64 2] (.int .i64 32) := by
  intro w
  go_enter Tryz.func122, Tryz.ntmps122
  go_wp2_with fail
  go_ret
  exact ⟨rfl, rfl⟩
set_option maxRecDepth 100000 in
theorem rw_3 : Ret 122 #[.int .i64 3] (.int .i64 48) := by
  intro w
  go_enter Tryz.func122, Tryz.ntmps122
  go_wp2_with fail
  go_ret
  exact ⟨rfl, rfl⟩
set_option maxRecDepth 100000 in
theorem rw_4 : Ret 122 #[.int .i64 4] (.int .i64 66) := by
  intro w
  go_enter Tryz.func122, Tryz.ntmps122
  go_wp2_with fail
  go_ret
  exact ⟨rfl, rfl⟩
set_option maxRecDepth 100000 in
theorem rw_no (k : Int) (h : k < 1 ∨ 4 < k) : Ret 122 #[.int .i64 k] (.int .i64 0) := by
  intro w
  have a1 : (k == 1) = false := by rw [beq_eq_false_iff_ne]; omega
  have a2 : (k == 2) = false := by rw [beq_eq_false_iff_ne]; omega
  have a3 : (k == 3) = false := by rw [beq_eq_false_iff_ne]; omega
  have a4 : (k == 4) = false := by rw [beq_eq_false_iff_ne]; omega
  clear h
  go_enter Tryz.func122, Tryz.ntmps122
  go_wp2_with fail
  go_ret
  exact ⟨rfl, rfl⟩
theorem rwidth_ret (no X : Int) (hX : X = (rowOf no).2.1) : Ret 122 #[.int .i64 no] (.int .i64 X) := by
  subst hX
  rcases row_cases no with h | rfl | rfl | rfl | rfl
  · rw [rowOf_out no h]; exact rw_no no h
  · exact rw_1
  · exact rw_2
  · exact rw_3
  · exact rw_4
/-- no more than what is made -/
def KAll : World → Prop := fun _ => True
instance : Kp KAll := ⟨fun _ _ => trivial⟩
def o1 : ByteArray := bs (rowOf 1).2.2.2
set_option maxRecDepth 100000 in
set_option maxHeartbeats 1000000 in
theorem ro_1 (z X : ByteArray) (hz : z = bs (rowOf 1).2.2.2) (q : Bool) (c1 : Mak 49 #[.string z] (.tuple #[.string X, .bool q])) : Mak 123 #[.int .i64 1] (.string X) := by
  intro w
  have HS := Lib.hid (Since.refl w)
  subst hz
  go_enter Tryz.func123, Tryz.ntmps123
  go_wp2_with fail
  refine c1.calls HS.out ?_
  intro w1 h1
  replace HS := Lib.hid h1
  clear h1
  go_wp2_with fail
  go_ret
  exact ⟨rfl, HS.out⟩
set_option maxRecDepth 100000 in
set_option maxHeartbeats 1000000 in
theorem ro_2 (z X : ByteArray) (hz : z = bs (rowOf 2).2.2.2) (q : Bool) (c1 : Mak 49 #[.string z] (.tuple #[.string X, .bool q])) : Mak 123 #[.int .i64 2] (.string X) := by
  intro w
  have HS := Lib.hid (Since.refl w)
  subst hz
  go_enter Tryz.func123, Tryz.ntmps123
  go_wp2_with fail
  refine c1.calls HS.out ?_
  intro w1 h1
  replace HS := Lib.hid h1
  clear h1
  go_wp2_with fail
  go_ret
  exact ⟨rfl, HS.out⟩
set_option maxRecDepth 100000 in
set_option maxHeartbeats 1000000 in
theorem ro_3 (z X : ByteArray) (hz : z = bs (rowOf 3).2.2.2) (q : Bool) (c1 : Mak 49 #[.string z] (.tuple #[.string X, .bool q])) : Mak 123 #[.int .i64 3] (.string X) := by
  intro w
  have HS := Lib.hid (Since.refl w)
  subst hz
  go_enter Tryz.func123, Tryz.ntmps123
  go_wp2_with fail
  refine c1.calls HS.out ?_
  intro w1 h1
  replace HS := Lib.hid h1
  clear h1
  go_wp2_with fail
  go_ret
  exact ⟨rfl, HS.out⟩
set_option maxRecDepth 100000 in
set_option maxHeartbeats 1000000 in
theorem ro_4 (z X : ByteArray) (hz : z = bs (rowOf 4).2.2.2) (q : Bool) (c1 : Mak 49 #[.string z] (.tuple #[.string X, .bool q])) : Mak 123 #[.int .i64 4] (.string X) := by
  intro w
  have HS := Lib.hid (Since.refl w)
  subst hz
  go_enter Tryz.func123, Tryz.ntmps123
  go_wp2_with fail
  refine c1.calls HS.out ?_
  intro w1 h1
  replace HS := Lib.hid h1
  clear h1
  go_wp2_with fail
  go_ret
  exact ⟨rfl, HS.out⟩
set_option maxRecDepth 100000 in
theorem ro_no (k : Int) (h : k < 1 ∨ 4 < k) (X : ByteArray) (q : Bool) (c1 : Mak 49 #[.string ⟨#[]⟩] (.tuple #[.string X, .bool q])) : Mak 123 #[.int .i64 k] (.string X) := by
  intro w
  have HS := Lib.hid (Since.refl w)
  have a1 : (k == 1) = false := by rw [beq_eq_false_iff_ne]; omega
  have a2 : (k == 2) = false := by rw [beq_eq_false_iff_ne]; omega
  have a3 : (k == 3) = false := by rw [beq_eq_false_iff_ne]; omega
  have a4 : (k == 4) = false := by rw [beq_eq_false_iff_ne]; omega
  clear h
  go_enter Tryz.func123, Tryz.ntmps123
  go_wp2_with fail
  repeat (first
    | (with_reducible refine c1.calls HS.out ?_; intro wz hz; replace HS := Lib.hid hz; clear hz; try go_wp2_with fail))
  go_ret
  exact ⟨rfl, HS.out⟩
theorem runhex_ev (s : ByteArray) (hm : s.size ≤ 200) (h : s.size % 2 = 0) : Mak 49 #[.string s] (.tuple #[.string (Dig.unS s.data.toList), .bool (Dig.unB s.data.toList)]) := by
  have hl : s.data.toList.length = s.size := rfl
  have e : Dig.unB s.data.toList = Dig.okN s.data.toList (s.size / 2) := by
    unfold Dig.unB
    rw [hl, decide_eq_true h, Bool.true_and]
  exact fun w => RefDig.unhex_even s (s.size / 2) w (by omega) (by omega) _ _ e (by unfold Dig.unS; rw [e, hl])
theorem rorder_mak (no : Int) (X : ByteArray) (hX : X = ordS (rowOf no)) : Mak 123 #[.int .i64 no] (.string X) := by
  subst hX
  obtain ⟨h1, h2⟩ := row_even no
  have hz : (bs (rowOf no).2.2.2).size = (rowOf no).2.2.2.length := by
    show (bs (rowOf no).2.2.2).data.toList.length = _
    rw [list_bs]
  have c2 := runhex_ev (bs (rowOf no).2.2.2) (by omega) (by omega)
  rw [list_bs] at c2
  rcases row_cases no with h | rfl | rfl | rfl | rfl
  · rw [rowOf_out no h] at c2 ⊢; exact ro_no no h _ _ c2
  · exact ro_1 _ _ rfl _ c2
  · exact ro_2 _ _ rfl _ c2
  · exact ro_3 _ _ rfl _ c2
  · exact ro_4 _ _ rfl _ c2
end Curve
end Go.Proofs.YtgfdomdbjiflmaaGreatDoor

/- The reference of layer 22: what is found, scalars; what the laws call awake. -/
namespace Go.Proofs.YtgfdomdbjiflmaaGreatDoor
open Go.RowKit
namespace Curve
theorem rowOf_at (i : Nat) (r : Row) (h : rows[i]? = some r) : rowOf ((i : Int) + 1) = r := by
  have hi : i < 4 := (List.getElem?_eq_some_iff.1 h).1
  unfold rowOf
  rw [if_pos (by omega), show ((i : Int) + 1 - 1).toNat = i by omega, h]
  rfl
theorem fndL_step (p : Row → Bool) (k : Nat) (r : Row) (h : rows[k]? = some r) (x : Int × Bool) (hx : fndL p (rows.drop k) k = x) : (if p r then ((k : Int) + 1, true) else fndL p (rows.drop (k + 1)) (k + 1)) = x := by
  have hk : k < rows.length := (List.getElem?_eq_some_iff.1 h).1
  rw [List.drop_eq_getElem_cons hk, (List.getElem?_eq_some_iff.1 h).2] at hx
  exact hx
theorem fndL_congr (p p' : Row → Bool) : ∀ (l : List Row) (k : Nat), (∀ r ∈ l, p r = p' r) → fndL p l k = fndL p' l k := by
  intro l
  induction l with
  | nil => intro k _; rfl
  | cons r l ih =>
    intro k h
    unfold fndL
    rw [h r (by simp), ih (k + 1) (fun x hx => h x (by simp [hx]))]
theorem Tabs.since {w w' : World} (h : Tabs w) (hs : Since w w') : Tabs w' := Kp.keep h hs
set_option maxRecDepth 100000 in
theorem KMkI.calls0 {K : World → Prop} {f : Nat} {args : Array Value} {xs : List Int} (h : KMkI K f args xs) {w : World} (hT : K w) {R : Ending → World → Prop} (k : ∀ v w', IntsS w' v xs → Since w w' → R (.returned v) w') : Calls Tryz.prog f args w R :=
  (h w hT).mono fun _ _ ⟨v, he, hi, hb⟩ => by subst he; exact k v _ hi hb
/-- calls that are handed ints, while K holds -/
def KRdI (K : World → Prop) (f : Nat) (xs : List Int) (v : Value) : Prop := ∀ w x, IntsS w x xs → K w → Calls Tryz.prog f #[x] w fun e w' => e = .returned v ∧ Below w.heap.size w w'
set_option maxRecDepth 100000 in
theorem KRdI.calls0 {K : World → Prop} {f : Nat} {xs : List Int} {v x : Value} (h : KRdI K f xs v) {w : World} (hx : IntsS w x xs) (hT : K w) {R : Ending → World → Prop} (k : ∀ w', Since w w' → R (.returned v) w') : Calls Tryz.prog f #[x] w R :=
  (h w x hx hT).mono fun _ _ ⟨he, hb⟩ => by subst he; exact k _ hb
set_option maxRecDepth 100000 in
theorem rscalar_0 (no : Int) (s : ByteArray) (c1 : Ret 122 #[.int .i64 no] (.int .i64 0)) : Ret 95 #[.int .i64 no, .string s] (.bool false) := by
  intro w
  go_enter Tryz.func95, Tryz.ntmps95
  go_wp2_with fail
  repeat (first
    | (with_reducible refine c1.calls ?_; try go_wp2_with fail))
  go_ret
  exact ⟨rfl, rfl⟩
set_option maxRecDepth 100000 in
theorem rscalar_w (no n : Int) (s : ByteArray) (hn : (n == 0) = false) (hz : ((s.size : Int) != n) = true) (c1 : Ret 122 #[.int .i64 no] (.int .i64 n)) : Ret 95 #[.int .i64 no, .string s] (.bool false) := by
  intro w
  go_enter Tryz.func95, Tryz.ntmps95
  go_wp2_with fail
  repeat (first
    | (with_reducible refine c1.calls ?_; try go_wp2_with fail))
  go_ret
  exact ⟨rfl, rfl⟩
theorem any_snoc (l : List UInt8) (k : Nat) (h : k < l.length) : (l.take (k + 1)).any (· != 0) = ((l.take k).any (· != 0) || l[k] != 0) := by
  rw [List.take_succ_eq_append_getElem h, List.any_append]; simp
set_option maxRecDepth 100000 in
set_option maxHeartbeats 1000000 in
theorem rscalar_l (no n : Int) (s Z : ByteArray) (p q : Bool) (hm : s.size ≤ 140737488355328) (hn : (n == 0) = false) (hz : ((s.size : Int) != n) = false) (hp : p = s.data.toList.any (· != 0)) (hq : Op.bytesLess s.toList Z.toList = q) (c1 : Ret 122 #[.int .i64 no] (.int .i64 n)) (c3 : Mak 123 #[.int .i64 no] (.string Z)) : Mak 95 #[.int .i64 no, .string s] (.bool (p && q)) := by
  intro w
  have HS := Lib.hid (Since.refl w)
  have HP := Lib.hid hp
  clear hp
  go_enter Tryz.func95, Tryz.ntmps95
  go_wp2_with fail
  repeat (first
    | (with_reducible refine c1.calls ?_; try go_wp2_with fail))
  go_loop [5, 6] (fun b i => ∃ k : Nat, k ≤ s.size ∧ i = .int .i64 (k : Int) ∧ ∃ x : Bool, b = .bool x ∧ Hid (x = (s.data.toList.take k).any (· != 0))) (fun _ i => s.size - (intOf i).toNat)
  case atStart => exact ⟨0, by omega, rfl, false, rfl, Lib.hid rfl⟩
  case round =>
    obtain ⟨k, hk, rfl, x, rfl, HX⟩ := hrel
    by_cases hlt : k < s.size
    · have hst := any_snoc s.data.toList k hlt
      obtain ⟨y, hy⟩ : ∃ y, ((s[k].toNat : Int) != 0) = y := ⟨_, rfl⟩
      have hy2 : (s.data.toList[k]'hlt != 0) = y := by
        rw [← hy, Bool.eq_iff_iff, bne_iff_ne, bne_iff_ne]
        have e : s.data.toList[k]'hlt = s[k] := rfl
        rw [e]
        exact not_congr ⟨fun h => by rw [h]; rfl, fun h => UInt8.toNat_inj.1 (by show s[k].toNat = 0; omega)⟩
      rw [hy2, ← HX.out] at hst
      clear hy2
      cases y
      · rw [Bool.or_false] at hst
        have HX2 := Lib.hid hst.symm
        clear hst HX
        go_wp2_with fail
        go_round
        case rel => exact ⟨k + 1, by omega, by go_num, x, rfl, HX2⟩
        case measure => simp [intOf]; omega
      · rw [Bool.or_true] at hst
        have HX2 := Lib.hid hst.symm
        clear hst HX
        go_wp2_with fail
        go_round
        case rel => exact ⟨k + 1, by omega, by go_num, true, rfl, HX2⟩
        case measure => simp [intOf]; omega
    · obtain rfl : k = s.size := by omega
      have hxp : x = p := by
        rw [HX.out, HP.out, List.take_of_length_le (show s.data.toList.length ≤ s.size from Nat.le_refl _)]
      subst hxp
      clear HX HP
      cases x
      · go_wp2_with fail
        go_ret
        exact ⟨rfl, HS.out⟩
      · go_wp2_with fail
        repeat (first
          | (with_reducible refine c3.calls HS.out ?_; intro wz hz; replace HS := Lib.hid hz; clear hz; try go_wp2_with fail))
        go_ret
        exact ⟨by rw [Bool.true_and]; first | rfl | rw [hq], HS.out⟩
theorem rscalar_mak (no : Int) (s : ByteArray) (hm : s.size ≤ 140737488355328) (q : Bool) (hq : q = scB (rowOf no) s.data.toList) : Mak 95 #[.int .i64 no, .string s] (.bool q) := by
  have hl : s.data.toList.length = s.size := rfl
  have c1 := rwidth_ret no _ rfl
  have c3 := rorder_mak no _ rfl
  unfold scB at hq
  rw [hl] at hq
  by_cases h0 : (rowOf no).2.1 = 0
  · rw [h0] at c1 hq
    have : q = false := by
      rw [hq]
      by_cases hs : s.data.toList = []
      · rw [hs]; rfl
      · have h9 : s.size ≠ 0 := fun h => hs (List.eq_nil_of_length_eq_zero (by omega))
        rw [decide_eq_false (show ¬ ((s.size : Int) = 0) by omega), Bool.and_false]; rfl
    subst this
    exact (rscalar_0 no s c1).mak
  · by_cases hz : (s.size : Int) = (rowOf no).2.1
    · rw [decide_eq_true hz, Bool.and_true, decide_eq_true (show s.data.toList ≠ [] from fun h => by rw [h] at hl; have h9 : ([] : List UInt8).length = 0 := rfl; omega), Bool.true_and] at hq
      rw [hq]
      exact rscalar_l no _ s _ _ _ hm (beq_eq_false_iff_ne.2 h0) (bne_eq_false_iff_eq.2 hz) rfl (by rw [toList_d, toList_d]) c1 c3
    · rw [decide_eq_false hz, Bool.and_false] at hq
      have : q = false := hq
      subst this
      exact (rscalar_w no _ s (beq_eq_false_iff_ne.2 h0) (bne_iff_ne.2 hz) c1).mak
end Curve
end Go.Proofs.YtgfdomdbjiflmaaGreatDoor

/- Package kind: By, Of and Check; the reference. -/
namespace Go.Proofs.YtgfdomdbjiflmaaGreatDoor
open Go.RowKit
namespace Kind
open Curve (KMkI KS KI)
theorem Tabs.since {w w' : World} (h : Tabs w) (hs : Since w w') : Tabs w' := Kp.keep h hs
def KBy (b b1 b2 : Nat) (s : ByteArray) (cu si : Int) : World → Prop := fun w => Tabs w ∧ KS b s w ∧ KI b1 cu w ∧ KI b2 si w
instance (b b1 b2 : Nat) (s : ByteArray) (cu si : Int) : Kp (KBy b b1 b2 s cu si) := ⟨fun h hb => ⟨Kp.keep h.1 hb, Kp.keep h.2.1 hb, Kp.keep h.2.2.1 hb, Kp.keep h.2.2.2 hb⟩⟩
def KOf (b b1 : Nat) (s : ByteArray) (si : Int) : World → Prop := fun w => Tabs w ∧ KS b s w ∧ KI b1 si w
instance (b b1 : Nat) (s : ByteArray) (si : Int) : Kp (KOf b b1 s si) := ⟨fun h hb => ⟨Kp.keep h.1 hb, Kp.keep h.2.1 hb, Kp.keep h.2.2 hb⟩⟩
def takes (s : List UInt8) (cu si : Int) (r : Row) : Bool := (r.2.2.2.2 == s) && (r.2.2.2.1 == cu) && (r.2.1 == si)
def wants (s : List UInt8) (si : Int) (r : Row) : Bool := (r.2.2.1 == s) && (r.2.1 == si)
def KRdI3 (K : World → Prop) (f : Nat) (xs : List Int) (a b : Int) (v : Value) : Prop := ∀ w x, IntsS w x xs → K w → Calls Tryz.prog f #[x, .int .i64 a, .int .i64 b] w fun e w' => e = .returned v ∧ Below w.heap.size w w'
set_option maxRecDepth 100000 in
theorem KRdI3.calls0 {K : World → Prop} {f : Nat} {xs : List Int} {a b : Int} {v x : Value} (h : KRdI3 K f xs a b v) {w : World} (hx : IntsS w x xs) (hT : K w) {R : Ending → World → Prop} (k : ∀ w', Since w w' → R (.returned v) w') : Calls Tryz.prog f #[x, .int .i64 a, .int .i64 b] w R :=
  (h w x hx hT).mono fun _ _ ⟨he, hb⟩ => by subst he; exact k _ hb
end Kind
end Go.Proofs.YtgfdomdbjiflmaaGreatDoor

/- The reference of layer 23; kind.Check. -/
namespace Go.Proofs.YtgfdomdbjiflmaaGreatDoor
open Go.RowKit
namespace Kind
open Curve (KMkI KAll)
set_option maxRecDepth 100000 in
theorem rc_1 : Ret 94 #[.int .i64 1] (.int .i64 0) := by
  intro w
  go_enter Tryz.func94, Tryz.ntmps94
  go_wp2_with fail
  go_ret
  exact ⟨rfl, rfl⟩
set_option maxRecDepth 100000 in
theorem rc_2 : Ret 94 #[.int .i64 2] (.int .i64 0) := by
  intro w
  go_enter Tryz.func94, Tryz.ntmps94
  go_wp2_with fail
  go_ret
  exact ⟨rfl, rfl⟩
set_option maxRecDepth 100000 in
theorem rc_3 : Ret 94 #[.int .i64 3] (.int .i64 0) := by
  intro w
  go_enter Tryz.func94, Tryz.ntmps94
  go_wp2_with fail
  go_ret
  exact ⟨rfl, rfl⟩
set_option maxRecDepth 100000 in
theorem rc_4 : Ret 94 #[.int .i64 4] (.int .i64 0) := by
  intro w
  go_enter Tryz.func94, Tryz.ntmps94
  go_wp2_with fail
  go_ret
  exact ⟨rfl, rfl⟩
set_option maxRecDepth 100000 in
theorem rc_5 : Ret 94 #[.int .i64 5] (.int .i64 0) := by
  intro w
  go_enter Tryz.func94, Tryz.ntmps94
  go_wp2_with fail
  go_ret
  exact ⟨rfl, rfl⟩
set_option maxRecDepth 100000 in
theorem rc_6 : Ret 94 #[.int .i64 6] (.int .i64 0) := by
  intro w
  go_enter Tryz.func94, Tryz.ntmps94
  go_wp2_with fail
  go_ret
  exact ⟨rfl, rfl⟩
set_option maxRecDepth 100000 in
theorem rc_7 : Ret 94 #[.int .i64 7] (.int .i64 0) := by
  intro w
  go_enter Tryz.func94, Tryz.ntmps94
  go_wp2_with fail
  go_ret
  exact ⟨rfl, rfl⟩
set_option maxRecDepth 100000 in
theorem rc_8 : Ret 94 #[.int .i64 8] (.int .i64 1) := by
  intro w
  go_enter Tryz.func94, Tryz.ntmps94
  go_wp2_with fail
  go_ret
  exact ⟨rfl, rfl⟩
set_option maxRecDepth 100000 in
theorem rc_9 : Ret 94 #[.int .i64 9] (.int .i64 2) := by
  intro w
  go_enter Tryz.func94, Tryz.ntmps94
  go_wp2_with fail
  go_ret
  exact ⟨rfl, rfl⟩
set_option maxRecDepth 100000 in
theorem rc_10 : Ret 94 #[.int .i64 10] (.int .i64 3) := by
  intro w
  go_enter Tryz.func94, Tryz.ntmps94
  go_wp2_with fail
  go_ret
  exact ⟨rfl, rfl⟩
set_option maxRecDepth 100000 in
theorem rc_11 : Ret 94 #[.int .i64 11] (.int .i64 4) := by
  intro w
  go_enter Tryz.func94, Tryz.ntmps94
  go_wp2_with fail
  go_ret
  exact ⟨rfl, rfl⟩
set_option maxRecDepth 100000 in
theorem rc_no (k : Int) (h : k < 1 ∨ 11 < k) : Ret 94 #[.int .i64 k] (.int .i64 0) := by
  intro w
  by_cases h1 : 8 ≤ k
  · have h2 : ¬ k ≤ 11 := by omega
    clear h
    go_enter Tryz.func94, Tryz.ntmps94
    go_wp2_with fail
    go_ret
    exact ⟨rfl, rfl⟩
  · clear h
    go_enter Tryz.func94, Tryz.ntmps94
    go_wp2_with fail
    go_ret
    exact ⟨rfl, rfl⟩
theorem rsize_ret (no : Int) (X : Int) (hX : X = (rowOf no).2.1) : Ret 93 #[.int .i64 no] (.int .i64 X) := by
  subst hX
  rcases row_cases no with h | rfl | rfl | rfl | rfl | rfl | rfl | rfl | rfl | rfl | rfl | rfl
  · rw [rowOf_out no h]; exact rsize_no no h
  · exact rsize_1
  · exact rsize_2
  · exact rsize_3
  · exact rsize_4
  · exact rsize_5
  · exact rsize_6
  · exact rsize_7
  · exact rsize_8
  · exact rsize_9
  · exact rsize_10
  · exact rsize_11
theorem rletter_ret (no : Int) (X : ByteArray) (hX : X = bs (rowOf no).2.2.1) : Ret 41 #[.int .i64 no] (.string X) := by
  subst hX
  rcases row_cases no with h | rfl | rfl | rfl | rfl | rfl | rfl | rfl | rfl | rfl | rfl | rfl
  · rw [rowOf_out no h]; exact rletter_no no h
  · exact rletter_1
  · exact rletter_2
  · exact rletter_3
  · exact rletter_4
  · exact rletter_5
  · exact rletter_6
  · exact rletter_7
  · exact rletter_8
  · exact rletter_9
  · exact rletter_10
  · exact rletter_11
theorem rcurve_ret (no : Int) (X : Int) (hX : X = (rowOf no).2.2.2.1) : Ret 94 #[.int .i64 no] (.int .i64 X) := by
  subst hX
  rcases row_cases no with h | rfl | rfl | rfl | rfl | rfl | rfl | rfl | rfl | rfl | rfl | rfl
  · rw [rowOf_out no h]; exact rc_no no h
  · exact rc_1
  · exact rc_2
  · exact rc_3
  · exact rc_4
  · exact rc_5
  · exact rc_6
  · exact rc_7
  · exact rc_8
  · exact rc_9
  · exact rc_10
  · exact rc_11
theorem rowOf_at (i : Nat) (r : Row) (h : rows[i]? = some r) : rowOf ((i : Int) + 1) = r := by
  have hi : i < 11 := (List.getElem?_eq_some_iff.1 h).1
  unfold rowOf
  rw [if_pos (by omega), show ((i : Int) + 1 - 1).toNat = i by omega, h]
  rfl
theorem fndL_step (p : Row → Bool) (k : Nat) (r : Row) (h : rows[k]? = some r) (x : Int × Bool) (hx : fndL p (rows.drop k) k = x) : (if p r then ((k : Int) + 1, true) else fndL p (rows.drop (k + 1)) (k + 1)) = x := by
  have hk : k < rows.length := (List.getElem?_eq_some_iff.1 h).1
  rw [List.drop_eq_getElem_cons hk, (List.getElem?_eq_some_iff.1 h).2] at hx
  exact hx
def RdI3 (f : Nat) (xs : List Int) (a b : Int) (v : Value) : Prop := ∀ w x, IntsS w x xs → Calls Tryz.prog f #[x, .int .i64 a, .int .i64 b] w fun e w' => e = .returned v ∧ Below w.heap.size w w'
set_option maxRecDepth 100000 in
theorem RdI3.calls0 {f : Nat} {xs : List Int} {a b : Int} {v x : Value} (h : RdI3 f xs a b v) {w : World} (hx : IntsS w x xs) {R : Ending → World → Prop} (k : ∀ w', Since w w' → R (.returned v) w') : Calls Tryz.prog f #[x, .int .i64 a, .int .i64 b] w R :=
  (h w x hx).mono fun _ _ ⟨he, hb⟩ => by subst he; exact k _ hb
end Kind
end Go.Proofs.YtgfdomdbjiflmaaGreatDoor

/- kind.Check, and the reference's; what the laws of layer 23 call awake. -/
namespace Go.Proofs.YtgfdomdbjiflmaaGreatDoor
open Go.RowKit
namespace Kind
open Curve (KMkI KAll)
/-- both tables -/
def Tab2 : World → Prop := fun w => Tabs w ∧ Curve.Tabs w
instance : Kp Tab2 := ⟨fun h hb => ⟨Kp.keep h.1 hb, Kp.keep h.2 hb⟩⟩
theorem Tab2.since {w w' : World} (h : Tab2 w) (hs : Since w w') : Tab2 w' := Kp.keep h hs
theorem KMk.t2 {f : Nat} {args : Array Value} {v : Value} (h : KMk Tabs f args v) : KMk Tab2 f args v := h.weak (fun _ h => h.1)
/-- why a key is none of a line's kind -/
def chkE (r : Row) (s : List UInt8) : Int := if r.2.1 = 0 then 8 else if (s.length : Int) ≠ r.2.1 then 9 else if r.2.2.2.1 ≠ 0 ∧ Curve.scB (Curve.rowOf r.2.2.2.1) s = false then 10 else 0
set_option maxRecDepth 100000 in
theorem chk_0 (no : Int) (s : ByteArray) (x y z : ByteArray) (n c : Int) (hn : (n == 0) = true) (c1 : KMk Tab2 84 #[.int .i64 no] (.agg #[.string x, .int .i64 n, .string y, .int .i64 c, .string z])) : KMk Tab2 57 #[.int .i64 no, .string s] (.int .i64 8) := by
  intro w hT
  go_enter Tryz.func57, Tryz.ntmps57
  go_wp2_with fail
  refine c1.calls0 hT ?_
  intro w1 h1
  have HSB := Lib.hid (Since.alloc h1 (.cells #[.string x, .int .i64 n, .string y, .int .i64 c, .string z] 120))
  clear hT h1
  go_wp2_with fail
  go_ret
  exact ⟨rfl, HSB.out⟩
set_option maxRecDepth 100000 in
theorem chk_l (no : Int) (s : ByteArray) (x y z : ByteArray) (n c : Int) (hn : (n == 0) = false) (hl : ((s.size : Int) != n) = true) (c1 : KMk Tab2 84 #[.int .i64 no] (.agg #[.string x, .int .i64 n, .string y, .int .i64 c, .string z])) : KMk Tab2 57 #[.int .i64 no, .string s] (.int .i64 9) := by
  intro w hT
  go_enter Tryz.func57, Tryz.ntmps57
  go_wp2_with fail
  refine c1.calls0 hT ?_
  intro w1 h1
  have HSB := Lib.hid (Since.alloc h1 (.cells #[.string x, .int .i64 n, .string y, .int .i64 c, .string z] 120))
  clear hT h1
  go_wp2_with fail
  go_ret
  exact ⟨rfl, HSB.out⟩
set_option maxRecDepth 100000 in
theorem chk_n (no : Int) (s : ByteArray) (x y z : ByteArray) (n c : Int) (hn : (n == 0) = false) (hl : ((s.size : Int) != n) = false) (hc : (c != 0) = false) (c1 : KMk Tab2 84 #[.int .i64 no] (.agg #[.string x, .int .i64 n, .string y, .int .i64 c, .string z])) : KMk Tab2 57 #[.int .i64 no, .string s] (.int .i64 0) := by
  intro w hT
  go_enter Tryz.func57, Tryz.ntmps57
  go_wp2_with fail
  refine c1.calls0 hT ?_
  intro w1 h1
  have HSB := Lib.hid (Since.alloc h1 (.cells #[.string x, .int .i64 n, .string y, .int .i64 c, .string z] 120))
  clear hT h1
  go_wp2_with fail
  go_ret
  exact ⟨rfl, HSB.out⟩
set_option maxRecDepth 100000 in
theorem chk_f (no : Int) (s : ByteArray) (x y z : ByteArray) (n c : Int) (hn : (n == 0) = false) (hl : ((s.size : Int) != n) = false) (hc : (c != 0) = true) (c1 : KMk Tab2 84 #[.int .i64 no] (.agg #[.string x, .int .i64 n, .string y, .int .i64 c, .string z])) (c2 : KMk Tab2 85 #[.int .i64 c, .string s] (.bool false)) : KMk Tab2 57 #[.int .i64 no, .string s] (.int .i64 10) := by
  intro w hT
  go_enter Tryz.func57, Tryz.ntmps57
  go_wp2_with fail
  refine c1.calls0 hT ?_
  intro w1 h1
  have HSB := Lib.hid (Since.alloc h1 (.cells #[.string x, .int .i64 n, .string y, .int .i64 c, .string z] 120))
  have HTB := Lib.hid (Kp.keep hT HSB.out)
  clear hT h1
  go_wp2_with fail
  refine c2.calls0 HTB.out ?_
  intro w2 h2
  have HSC := Lib.hid (HSB.out.step h2)
  clear h2
  go_wp2_with fail
  go_ret
  exact ⟨rfl, HSC.out⟩
set_option maxRecDepth 100000 in
theorem chk_t (no : Int) (s : ByteArray) (x y z : ByteArray) (n c : Int) (hn : (n == 0) = false) (hl : ((s.size : Int) != n) = false) (hc : (c != 0) = true) (c1 : KMk Tab2 84 #[.int .i64 no] (.agg #[.string x, .int .i64 n, .string y, .int .i64 c, .string z])) (c2 : KMk Tab2 85 #[.int .i64 c, .string s] (.bool true)) : KMk Tab2 57 #[.int .i64 no, .string s] (.int .i64 0) := by
  intro w hT
  go_enter Tryz.func57, Tryz.ntmps57
  go_wp2_with fail
  refine c1.calls0 hT ?_
  intro w1 h1
  have HSB := Lib.hid (Since.alloc h1 (.cells #[.string x, .int .i64 n, .string y, .int .i64 c, .string z] 120))
  have HTB := Lib.hid (Kp.keep hT HSB.out)
  clear hT h1
  go_wp2_with fail
  refine c2.calls0 HTB.out ?_
  intro w2 h2
  have HSC := Lib.hid (HSB.out.step h2)
  clear h2
  go_wp2_with fail
  go_ret
  exact ⟨rfl, HSC.out⟩
theorem check_k (no : Int) (s : ByteArray) (hm : s.size ≤ 140737488355328) (E : Int) (hE : E = chkE (rowOf no) s.data.toList) : KMk Tab2 57 #[.int .i64 no, .string s] (.int .i64 E) := by
  subst hE
  have c1 := KMk.t2 (by_k no)
  unfold rowV at c1
  unfold chkE
  have hl : s.data.toList.length = s.size := rfl
  rw [hl]
  by_cases h0 : (rowOf no).2.1 = 0
  · rw [if_pos h0]; exact chk_0 no s _ _ _ _ _ (beq_iff_eq.2 h0) c1
  · rw [if_neg h0]
    by_cases h1 : (s.size : Int) ≠ (rowOf no).2.1
    · rw [if_pos h1]; exact chk_l no s _ _ _ _ _ (beq_eq_false_iff_ne.2 h0) (bne_iff_ne.2 h1) c1
    · have h1' : (s.size : Int) = (rowOf no).2.1 := by omega
      rw [if_neg h1]
      by_cases h2 : (rowOf no).2.2.2.1 = 0
      · rw [if_neg (fun h => h.1 h2)]; exact chk_n no s _ _ _ _ _ (beq_eq_false_iff_ne.2 h0) (bne_eq_false_iff_eq.2 h1') (bne_eq_false_iff_eq.2 h2) c1
      · have c2 : KMk Tab2 85 #[.int .i64 (rowOf no).2.2.2.1, .string s] (.bool (Curve.scB (Curve.rowOf (rowOf no).2.2.2.1) s.data.toList)) := (Curve.scalar_k _ s hm _ rfl).weak (fun _ h => h.2)
        cases hq : Curve.scB (Curve.rowOf (rowOf no).2.2.2.1) s.data.toList with
        | false =>
          rw [hq] at c2
          rw [if_pos ⟨h2, rfl⟩]; exact chk_f no s _ _ _ _ _ (beq_eq_false_iff_ne.2 h0) (bne_eq_false_iff_eq.2 h1') (bne_iff_ne.2 h2) c1 c2
        | true =>
          rw [hq] at c2
          rw [if_neg (fun h => by cases h.2)]; exact chk_t no s _ _ _ _ _ (beq_eq_false_iff_ne.2 h0) (bne_eq_false_iff_eq.2 h1') (bne_iff_ne.2 h2) c1 c2
set_option maxRecDepth 100000 in
theorem rchk_0 (no : Int) (s : ByteArray) (n _c : Int) (hn : (n == 0) = true) (c1 : Ret 93 #[.int .i64 no] (.int .i64 n)) : Mak 67 #[.int .i64 no, .string s] (.int .i64 8) := by
  intro w
  have HS := Lib.hid (Since.refl w)
  go_enter Tryz.func67, Tryz.ntmps67
  go_wp2_with fail
  repeat (first
    | (with_reducible refine c1.calls ?_; try go_wp2_with fail))
  go_ret
  exact ⟨rfl, HS.out⟩
set_option maxRecDepth 100000 in
theorem rchk_l (no : Int) (s : ByteArray) (n _c : Int) (hn : (n == 0) = false) (hl : ((s.size : Int) != n) = true) (c1 : Ret 93 #[.int .i64 no] (.int .i64 n)) : Mak 67 #[.int .i64 no, .string s] (.int .i64 9) := by
  intro w
  have HS := Lib.hid (Since.refl w)
  go_enter Tryz.func67, Tryz.ntmps67
  go_wp2_with fail
  repeat (first
    | (with_reducible refine c1.calls ?_; try go_wp2_with fail))
  go_ret
  exact ⟨rfl, HS.out⟩
set_option maxRecDepth 100000 in
theorem rchk_n (no : Int) (s : ByteArray) (n c : Int) (hn : (n == 0) = false) (hl : ((s.size : Int) != n) = false) (hc : decide (0 < c) = false) (c1 : Ret 93 #[.int .i64 no] (.int .i64 n)) (c2 : Ret 94 #[.int .i64 no] (.int .i64 c)) : Mak 67 #[.int .i64 no, .string s] (.int .i64 0) := by
  intro w
  have HS := Lib.hid (Since.refl w)
  go_enter Tryz.func67, Tryz.ntmps67
  go_wp2_with fail
  repeat (first
    | (with_reducible refine c1.calls ?_; try go_wp2_with fail)
    | (with_reducible refine c2.calls ?_; try go_wp2_with fail))
  go_ret
  exact ⟨rfl, HS.out⟩
set_option maxRecDepth 100000 in
theorem rchk_f (no : Int) (s : ByteArray) (n c : Int) (hn : (n == 0) = false) (hl : ((s.size : Int) != n) = false) (hc : decide (0 < c) = true) (c1 : Ret 93 #[.int .i64 no] (.int .i64 n)) (c2 : Ret 94 #[.int .i64 no] (.int .i64 c)) (c3 : Mak 95 #[.int .i64 c, .string s] (.bool false)) : Mak 67 #[.int .i64 no, .string s] (.int .i64 10) := by
  intro w
  have HS := Lib.hid (Since.refl w)
  go_enter Tryz.func67, Tryz.ntmps67
  go_wp2_with fail
  repeat (first
    | (with_reducible refine c1.calls ?_; try go_wp2_with fail)
    | (with_reducible refine c2.calls ?_; try go_wp2_with fail)
    | (with_reducible refine c3.calls HS.out ?_; intro wz hz; replace HS := Lib.hid hz; clear hz; try go_wp2_with fail))
  go_ret
  exact ⟨rfl, HS.out⟩
set_option maxRecDepth 100000 in
theorem rchk_t (no : Int) (s : ByteArray) (n c : Int) (hn : (n == 0) = false) (hl : ((s.size : Int) != n) = false) (hc : decide (0 < c) = true) (c1 : Ret 93 #[.int .i64 no] (.int .i64 n)) (c2 : Ret 94 #[.int .i64 no] (.int .i64 c)) (c3 : Mak 95 #[.int .i64 c, .string s] (.bool true)) : Mak 67 #[.int .i64 no, .string s] (.int .i64 0) := by
  intro w
  have HS := Lib.hid (Since.refl w)
  go_enter Tryz.func67, Tryz.ntmps67
  go_wp2_with fail
  repeat (first
    | (with_reducible refine c1.calls ?_; try go_wp2_with fail)
    | (with_reducible refine c2.calls ?_; try go_wp2_with fail)
    | (with_reducible refine c3.calls HS.out ?_; intro wz hz; replace HS := Lib.hid hz; clear hz; try go_wp2_with fail))
  go_ret
  exact ⟨rfl, HS.out⟩
theorem row_curve (no : Int) : 0 ≤ (rowOf no).2.2.2.1 := by
  unfold rowOf
  split
  · rename_i h
    have hall : ∀ r ∈ rows, 0 ≤ r.2.2.2.1 := by decide +kernel
    cases hr : rows[(no - 1).toNat]? with
    | none => exact Int.le_refl 0
    | some r => exact hall r (List.mem_of_getElem? hr)
  · exact Int.le_refl 0
theorem rcheck_mak (no : Int) (s : ByteArray) (hm : s.size ≤ 140737488355328) (E : Int) (hE : E = chkE (rowOf no) s.data.toList) : Mak 67 #[.int .i64 no, .string s] (.int .i64 E) := by
  subst hE
  have c1 := rsize_ret no _ rfl
  have c2 := rcurve_ret no _ rfl
  have hcv := row_curve no
  unfold chkE
  have hl : s.data.toList.length = s.size := rfl
  rw [hl]
  by_cases h0 : (rowOf no).2.1 = 0
  · rw [if_pos h0]; exact rchk_0 no s _ 0 (beq_iff_eq.2 h0) c1
  · rw [if_neg h0]
    by_cases h1 : (s.size : Int) ≠ (rowOf no).2.1
    · rw [if_pos h1]; exact rchk_l no s _ 0 (beq_eq_false_iff_ne.2 h0) (bne_iff_ne.2 h1) c1
    · have h1' : (s.size : Int) = (rowOf no).2.1 := by omega
      rw [if_neg h1]
      by_cases h2 : (rowOf no).2.2.2.1 = 0
      · rw [if_neg (fun h => h.1 h2)]; exact rchk_n no s _ _ (beq_eq_false_iff_ne.2 h0) (bne_eq_false_iff_eq.2 h1') (decide_eq_false (by omega)) c1 c2
      · have c3 := Curve.rscalar_mak (rowOf no).2.2.2.1 s hm _ rfl
        cases hq : Curve.scB (Curve.rowOf (rowOf no).2.2.2.1) s.data.toList with
        | false =>
          rw [hq] at c3
          rw [if_pos ⟨h2, rfl⟩]; exact rchk_f no s _ _ (beq_eq_false_iff_ne.2 h0) (bne_eq_false_iff_eq.2 h1') (decide_eq_true (by omega)) c1 c2 c3
        | true =>
          rw [hq] at c3
          rw [if_neg (fun h => by cases h.2)]; exact rchk_t no s _ _ (beq_eq_false_iff_ne.2 h0) (bne_eq_false_iff_eq.2 h1') (decide_eq_true (by omega)) c1 c2 c3
set_option maxRecDepth 100000 in
theorem tabs4_of {W : World} (h : laidMetH Tryz.prog [("unicode/utf8.acceptRanges", Rows.laid_unicode_utf8_acceptRanges), ("claviger/curve.lines", Rows.laid_claviger_curve_lines), ("claviger/kind.lines", Rows.laid_claviger_kind_lines), ("unicode/utf8.first", Rows.laid_unicode_utf8_first)] W) : Tab2 W := by
  rw [MakeChecks.laidMetH_plain _ _ _ (by kernel_rfl)] at h
  obtain ⟨ps, ⟨_, _, _, _, _, _, _, _, _, _, ⟨g0, t0, cs0, f0, p0, q0, hg0, ht0, hv0, hd0, ⟨g1, t1, cs1, f1, p1, q1, hg1, ht1, hv1, hd1, _, _⟩, _⟩, _⟩, _, _⟩ := h
  exact ⟨tabs_at hg1 ht1 hv1 hd1, Curve.tabs_at hg0 ht0 hv0 hd0⟩
end Kind
end Go.Proofs.YtgfdomdbjiflmaaGreatDoor
