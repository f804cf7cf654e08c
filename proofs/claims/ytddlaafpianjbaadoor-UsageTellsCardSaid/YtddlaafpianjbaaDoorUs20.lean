/- Joined texts. -/
-- PACK: YtddlaafpianjbaaDoorTable YtddlaafpianjbaaDoorTable2 YtddlaafpianjbaaDoorTable3 YtddlaafpianjbaaDoorTable4
import Derived.Test.YtddlaafpianjbaaDoorUs17
import Derived.Test.YtddlaafpianjbaaDoorUs9
import Derived.Laws.CopyOwn
import Derived.Test.YtddlaafpianjbaaDoorUs4
import Derived.BigQuiet

/- Package table: a usage's line. -/
namespace Go.Proofs.YtddlaafpianjbaaDoor
open Go.RowKit
namespace Table

def dig (c : UInt8) : Bool := decide (48 ≤ c.toNat ∧ c.toNat ≤ 57)
def num (l : List UInt8) : Bool := match l with
  | [a, b] => decide (49 ≤ a.toNat ∧ a.toNat ≤ 57) && dig b
  | _ => false
def one (all s : List UInt8) : Bool := match s with
  | [c] => all.contains c
  | _ => false
def none3 : List UInt8 × List UInt8 × List UInt8 := ([], [], [])
/-- a usage's line -/
def lineL (u : List UInt8) : List UInt8 × List UInt8 × List UInt8 := if num u then rows.getD 10 none3 else if u = [] then none3 else (rows.find? (fun r => r.1 == u)).getD none3

set_option maxRecDepth 100000 in
theorem digit_ret (c : Nat) (hc : c ≤ 255) (q : Bool) (hq : q = decide (48 ≤ c ∧ c ≤ 57)) : Ret 40 #[.int .u8 (c : Int)] (.bool q) := by
  intro w
  subst hq
  by_cases h1 : 48 ≤ c
  · have t1 : decide ((48 : Int) ≤ (c : Int)) = true := decide_eq_true (by omega)
    by_cases h2 : c ≤ 57
    · have t2 : decide ((c : Int) ≤ (57 : Int)) = true := decide_eq_true (by omega)
      rw [decide_eq_true ⟨h1, h2⟩]
      go_enter Tryd.func40, Tryd.ntmps40
      go_wp2_with fail
      go_ret
      exact ⟨rfl, rfl⟩
    · have t2 : decide ((c : Int) ≤ (57 : Int)) = false := decide_eq_false (by omega)
      rw [decide_eq_false (fun h => h2 h.2)]
      go_enter Tryd.func40, Tryd.ntmps40
      go_wp2_with fail
      go_ret
      exact ⟨rfl, rfl⟩
  · have t1 : decide ((48 : Int) ≤ (c : Int)) = false := decide_eq_false (by omega)
    rw [decide_eq_false (fun h => h1 h.1)]
    go_enter Tryd.func40, Tryd.ntmps40
    go_wp2_with fail
    go_ret
    exact ⟨rfl, rfl⟩
set_option maxRecDepth 100000 in
theorem number_len (s : ByteArray) (h : s.size ≠ 2) : Ret 38 #[.string s] (.bool false) := by
  intro w
  have t1 : ((s.size : Int) == 2) = false := by rw [beq_eq_false_iff_ne]; omega
  go_enter Tryd.func38, Tryd.ntmps38
  go_wp2_with fail
  go_ret
  exact ⟨rfl, rfl⟩
set_option maxRecDepth 100000 in
theorem number_two (s : ByteArray) (hz : s.size = 2) (h0 : 0 < s.size) (h1 : 1 < s.size) (p r x : Bool) (hx : ((s[0].toNat : Int) != 48) = x) (c1 : Ret 40 #[.int .u8 (s[0].toNat : Int)] (.bool p)) (c2 : Ret 40 #[.int .u8 (s[1].toNat : Int)] (.bool r)) : Ret 38 #[.string s] (.bool (x && p && r)) := by
  intro w
  have t1 : ((s.size : Int) == 2) = true := by rw [beq_iff_eq]; omega
  cases x
  · go_enter Tryd.func38, Tryd.ntmps38
    go_wp2_with fail
    go_ret
    exact ⟨rfl, rfl⟩
  · cases p
    · go_enter Tryd.func38, Tryd.ntmps38
      go_wp2_with fail
      refine (c1).calls ?_
      go_wp2_with fail
      go_ret
      exact ⟨rfl, rfl⟩
    · go_enter Tryd.func38, Tryd.ntmps38
      go_wp2_with fail
      refine (c1).calls ?_
      go_wp2_with fail
      refine (c2).calls ?_
      go_wp2_with fail
      go_ret
      exact ⟨rfl, rfl⟩
theorem number_ret (s : ByteArray) (q : Bool) (hq : q = num s.data.toList) : Ret 38 #[.string s] (.bool q) := by
  subst hq
  by_cases h : s.size = 2
  · obtain ⟨a, b, hs⟩ : ∃ a b, s.data.toList = [a, b] := by
      have h2 : s.data.toList.length = 2 := h
      match hl : s.data.toList, h2 with
      | [a, b], _ => exact ⟨a, b, rfl⟩
    obtain rfl : s = ⟨#[a, b]⟩ := ba_ext hs
    have ha := a.toNat_lt
    have hb := b.toNat_lt
    have h9 := number_two ⟨#[a, b]⟩ rfl (show 0 < 2 by decide) (show 1 < 2 by decide) _ _ _ rfl (digit_ret a.toNat (by omega) _ rfl) (digit_ret b.toNat (by omega) _ rfl)
    have e : num [a, b] = (((a.toNat : Int) != 48) && decide (48 ≤ a.toNat ∧ a.toNat ≤ 57) && decide (48 ≤ b.toNat ∧ b.toNat ≤ 57)) := by
      show (decide (49 ≤ a.toNat ∧ a.toNat ≤ 57) && decide (48 ≤ b.toNat ∧ b.toNat ≤ 57)) = _
      congr 1
      rw [Bool.eq_iff_iff, decide_eq_true_iff, Bool.and_eq_true, decide_eq_true_iff, bne_iff_ne]
      omega
    show Ret _ _ (.bool (num [a, b]))
    rw [e]
    exact h9
  · have e : num s.data.toList = false := by
      have h2 : s.data.toList.length ≠ 2 := h
      unfold num
      split
      · rename_i hl; rw [hl] at h2; exact absurd rfl h2
      · rfl
    rw [e]
    exact number_len s h
set_option maxRecDepth 100000 in
set_option maxHeartbeats 1000000 in
theorem by_num (u : ByteArray) (x y z : ByteArray) (hr : rows[10]? = some (x.data.toList, y.data.toList, z.data.toList)) (c1 : Ret 38 #[.string u] (.bool true)) : KMk Tabs 32 #[.string u] (.agg #[.string x, .string y, .string z]) := by
  intro w hT
  have HT := Lib.hid hT
  have m0 : w.cell? ⟨0, 30, none⟩ = some (.string x) := by have := hT 10 _ hr 0 _ rfl; rw [← bs_list x]; exact this
  have m1 : w.cell? ⟨0, 31, none⟩ = some (.string y) := by have := hT 10 _ hr 1 _ rfl; rw [← bs_list y]; exact this
  have m2 : w.cell? ⟨0, 32, none⟩ = some (.string z) := by have := hT 10 _ hr 2 _ rfl; rw [← bs_list z]; exact this
  have hlt := hT.lt
  clear hT hr
  go_enter Tryd.func32, Tryd.ntmps32
  go_wp2_with fail
  refine (c1).calls ?_
  go_wp2_with fail
  exact bodyPost_ret (v := .agg #[.string x, .string y, .string z]) (by simp [results, Tryd.results32, go_sem]; try rfl) rfl ⟨rfl, (Below.refl _ w).alloc (Nat.le_refl _) _⟩
theorem find_at {α : Type} (p : α → Bool) : ∀ (l : List α) (k : Nat) (r : α), l[k]? = some r → p r = true → (∀ j r', j < k → l[j]? = some r' → p r' = false) → l.find? p = some r := by
  intro l
  induction l with
  | nil => intro k r h; simp at h
  | cons a l ih =>
    intro k r h hp hn
    cases k with
    | zero =>
      simp at h
      subst h
      rw [List.find?_cons, hp]
    | succ k =>
      rw [List.find?_cons, hn 0 a (by omega) rfl]
      exact ih k r (by simpa using h) hp (fun j r' hj h' => hn (j + 1) r' (by omega) (by simpa using h'))
theorem str_beq (p q : ByteArray) (c : Bool) (h : (p.data.toList == q.data.toList) = c) : (p.toList == q.toList) = c := by rw [toList_d, toList_d]; exact h
set_option maxRecDepth 100000 in
theorem line_info (x y z : Value) : (Tryd.prog.info? 53).map (·.size) = some (#[x, y, z] : Array Value).size := by kernel_rfl
theorem line_one (x y z : ByteArray) : (#[.string x, .string y, .string z] : Array Value).all (·.oneCell') = true := by
  rw [Array.all_eq_true]
  intro i hi
  match i, hi with
  | 0, _ | 1, _ | 2, _ => rfl
set_option maxRecDepth 100000 in
set_option maxHeartbeats 4000000 in
theorem by_find (u x y z : ByteArray) (hu : 0 < u.size) (hr : (rows.find? (fun r => r.1 == u.data.toList)).getD none3 = (x.data.toList, y.data.toList, z.data.toList)) (c1 : Ret 38 #[.string u] (.bool false)) : KMk Tabs 32 #[.string u] (.agg #[.string x, .string y, .string z]) := by
  intro w hT
  have hlt := hT.lt
  have HS := Lib.hid (Since.alloc (Since.refl w) (.cells #[.string ⟨#[]⟩, .string ⟨#[]⟩, .string ⟨#[]⟩] 53))
  have hl := load_all (Kp.keep hT HS.out)
  obtain ⟨D, hD⟩ : ∃ D, D = cells := ⟨_, rfl⟩
  rw [← hD] at hl
  have HX : Hid (∀ (i : Nat) r, rows[i]? = some r → ∀ W, (Instr.index 59 (.agg D) (.int .i64 (i : Int))).run Tryd.prog W = .ok (.agg #[.string (bs r.1), .string (bs r.2.1), .string (bs r.2.2)]) W) := Lib.hid (fun i r h W => by rw [hD]; exact index_at i r h W)
  have b1 := some_bytes u hu
  have b2 := some_bytes_f u hu
  have HR := Lib.hid hr
  clear hT hr hD
  have Hl := Lib.hid hl
  clear hl
  go_enter Tryd.func32, Tryd.ntmps32
  go_wp2_with fail
  refine c1.calls ?_
  go_wp2_with ((with_reducible refine wpList_load_run _ _ _ _ (.agg D) ?_ Hl.out ?_) <;> try rfl)
  go_loopw [10] (fun i wr => ∃ k : Nat, k ≤ 11 ∧ i = .int .i64 (k : Int) ∧ Hid (∀ j r, j < k → rows[j]? = some r → (r.1 == u.data.toList) = false) ∧ Hid (Since (w.alloc (.cells #[.string ⟨#[]⟩, .string ⟨#[]⟩, .string ⟨#[]⟩] 53)) wr)) (fun i _ => 11 - (intOf i).toNat)
  case atStart => exact ⟨0, by omega, rfl, Lib.hid (fun j r h => by omega), Lib.hid (Since.refl _)⟩
  case round =>
    obtain ⟨k, hk, rfl, HN, HI⟩ := hrel
    have hB := Lib.hid (((Below.block HI.out w.heap.size (by simp)).trans (heap_alloc_new w _)))
    have hsz : w.heap.size < wr.heap.size := Nat.lt_of_lt_of_le (by simp) (Below.size HI.out)
    by_cases hlt2 : k < 11
    · obtain ⟨r, hr⟩ : ∃ r, rows[k]? = some r := ⟨rows[k]'hlt2, List.getElem?_eq_getElem _⟩
      have hix := HX.out k r hr
      obtain ⟨q, hq⟩ : ∃ q, (r.1 == u.data.toList) = q := ⟨_, rfl⟩
      have t1 : ((bs r.1).toList == u.toList) = q := str_beq _ _ _ hq
      cases q
      · have HN2 : Hid (∀ j r, j < k + 1 → rows[j]? = some r → (r.1 == u.data.toList) = false) := Lib.hid (fun j r' h h2 => by
          by_cases hj : j = k
          · subst hj
            rw [hr] at h2
            cases h2
            exact hq
          · exact HN.out j r' (by omega) h2)
        clear hr hq
        go_wp2_with fail
        go_roundw
        case rel => exact ⟨k + 1, by omega, by go_num, HN2, Lib.hid (HI.out.alloc _)⟩
        case measure => simp [intOf]; omega
      · have hx : r = (x.data.toList, y.data.toList, z.data.toList) := by
          rw [← HR.out, find_at _ rows k r hr hq HN.out]
          rfl
        have e0 : bs r.1 = x := by rw [hx]; exact bs_list x
        have e1 : bs r.2.1 = y := by rw [hx]; exact bs_list y
        have e2 : bs r.2.2 = z := by rw [hx]; exact bs_list z
        rw [e0, e1, e2] at hix
        rw [e0] at t1
        have hB2 := Lib.hid (show (wr.alloc (.cells #[.string x, .string y, .string z] 53)).heap[w.heap.size]? = _ from (Go.heap_alloc_old _ _ hsz).trans hB.out)
        clear hr hq hx e0 e1 e2
        go_wp2_with (refine wpList_store_row rfl 53 _ _ rfl w.heap.size #[.string x, .string y, .string z] (by rfl) (by rfl) _ _ hB2.out (line_info _ _ _) rfl (line_one _ _ _) ?_)
        exact bodyPost_ret (v := .agg #[.string x, .string y, .string z]) (results_cell_row Tryd.results32 _ _ _ _ _ _ _ rfl (setRow_heap _ _ _ _ _ _ hB2.out) Tryd.underlying53 rfl (by kernel_rfl)) rfl ⟨rfl, below_setRow (((Since.alloc (Since.refl w) _).step HI.out).alloc _) (Nat.le_refl _) _⟩
    · obtain rfl : k = 11 := by omega
      have hn : (x.data.toList, y.data.toList, z.data.toList) = none3 := by
        rw [← HR.out]
        have : rows.find? (fun r => r.1 == u.data.toList) = none := by
          rw [List.find?_eq_none]
          intro r hr
          obtain ⟨j, hj, hj2⟩ := List.getElem_of_mem hr
          rw [HN.out j r hj (by rw [List.getElem?_eq_getElem hj, hj2])]
          decide
        rw [this]; rfl
      have e0 : x = ⟨#[]⟩ := ba_ext (congrArg (·.1) hn)
      have e1 : y = ⟨#[]⟩ := ba_ext (congrArg (·.2.1) hn)
      have e2 : z = ⟨#[]⟩ := ba_ext (congrArg (·.2.2) hn)
      subst e0 e1 e2
      clear hn
      go_wp2_with (refine wpList_store_row rfl 53 _ _ rfl w.heap.size #[.string ⟨#[]⟩, .string ⟨#[]⟩, .string ⟨#[]⟩] (by rfl) (by rfl) _ _ hB.out (line_info _ _ _) rfl (line_one _ _ _) ?_)
      exact bodyPost_ret (v := .agg #[.string ⟨#[]⟩, .string ⟨#[]⟩, .string ⟨#[]⟩]) (results_cell_row Tryd.results32 _ _ _ _ _ _ _ rfl (setRow_heap _ _ _ _ _ _ hB.out) Tryd.underlying53 rfl (by kernel_rfl)) rfl ⟨rfl, below_setRow ((Since.alloc (Since.refl w) _).step HI.out) (Nat.le_refl _) _⟩
end Table
end Go.Proofs.YtddlaafpianjbaaDoor

/- Package table: what may be. -/
namespace Go.Proofs.YtddlaafpianjbaaDoor
open Go.RowKit
namespace Table
set_option maxRecDepth 100000 in
theorem by_empty (c1 : Ret 38 #[.string ⟨#[]⟩] (.bool false)) : KMk Tabs 32 #[.string ⟨#[]⟩] (.agg #[.string ⟨#[]⟩, .string ⟨#[]⟩, .string ⟨#[]⟩]) := by
  intro w hT
  have hlt := hT.lt
  have HS := Lib.hid (Since.alloc (Since.refl w) (.cells #[.string ⟨#[]⟩, .string ⟨#[]⟩, .string ⟨#[]⟩] 53))
  have hl := load_all (Kp.keep hT HS.out)
  obtain ⟨D, hD⟩ : ∃ D, D = cells := ⟨_, rfl⟩
  rw [← hD] at hl
  have HX : Hid (∀ (i : Nat) r, rows[i]? = some r → ∀ W, (Instr.index 59 (.agg D) (.int .i64 (i : Int))).run Tryd.prog W = .ok (.agg #[.string (bs r.1), .string (bs r.2.1), .string (bs r.2.2)]) W) := Lib.hid (fun i r h W => by rw [hD]; exact index_at i r h W)
  have Hl := Lib.hid hl
  clear hT hD hl
  go_enter Tryd.func32, Tryd.ntmps32
  go_wp2_with fail
  refine c1.calls ?_
  go_wp2_with ((with_reducible refine wpList_load_run _ _ _ _ (.agg D) ?_ Hl.out ?_) <;> try rfl)
  go_loopw [10] (fun i wr => ∃ k : Nat, k ≤ 11 ∧ i = .int .i64 (k : Int) ∧ Hid (Since (w.alloc (.cells #[.string ⟨#[]⟩, .string ⟨#[]⟩, .string ⟨#[]⟩] 53)) wr)) (fun i _ => 11 - (intOf i).toNat)
  case atStart => exact ⟨0, by omega, rfl, Lib.hid (Since.refl _)⟩
  case round =>
    obtain ⟨k, hk, rfl, HI⟩ := hrel
    have hB := Lib.hid (((Below.block HI.out w.heap.size (by simp)).trans (heap_alloc_new w _)))
    by_cases hlt2 : k < 11
    · obtain ⟨r, hr⟩ : ∃ r, rows[k]? = some r := ⟨rows[k]'hlt2, List.getElem?_eq_getElem _⟩
      have hix := HX.out k r hr
      clear hr
      go_wp2_with fail
      go_roundw
      case rel => exact ⟨k + 1, by omega, by go_num, Lib.hid (HI.out.alloc _)⟩
      case measure => simp [intOf]; omega
    · obtain rfl : k = 11 := by omega
      go_wp2_with (refine wpList_store_row rfl 53 _ _ rfl w.heap.size #[.string ⟨#[]⟩, .string ⟨#[]⟩, .string ⟨#[]⟩] (by rfl) (by rfl) _ _ hB.out (line_info _ _ _) rfl (line_one _ _ _) ?_)
      exact bodyPost_ret (v := .agg #[.string ⟨#[]⟩, .string ⟨#[]⟩, .string ⟨#[]⟩]) (results_cell_row Tryd.results32 _ _ _ _ _ _ _ rfl (setRow_heap _ _ _ _ _ _ hB.out) Tryd.underlying53 rfl (by kernel_rfl)) rfl ⟨rfl, below_setRow ((Since.alloc (Since.refl w) _).step HI.out) (Nat.le_refl _) _⟩
/-- a usage's line, as a value -/
def lineV (u : List UInt8) : Value := .agg #[.string (bs (lineL u).1), .string (bs (lineL u).2.1), .string (bs (lineL u).2.2)]
theorem by_k (u : ByteArray) : KMk Tabs 32 #[.string u] (lineV u.data.toList) := by
  have c1 := number_ret u _ rfl
  unfold lineV
  cases hn : num u.data.toList with
  | true =>
    rw [hn] at c1
    exact by_num u _ _ _ (by unfold lineL; rw [hn]; rfl) c1
  | false =>
    rw [hn] at c1
    by_cases hu : 0 < u.size
    · refine by_find u _ _ _ hu ?_ c1
      have hne : u.data.toList ≠ [] := fun h => by
        have h8 : u.data.toList.length = u.size := rfl
        rw [h] at h8
        have h9 : ([] : List UInt8).length = 0 := rfl
        omega
      simp only [list_bs]
      unfold lineL
      rw [hn, if_neg (by decide), if_neg hne]
    · obtain rfl : u = ⟨#[]⟩ := ba_ext (List.eq_nil_of_length_eq_zero (by have h8 : u.size = u.data.toList.length := rfl; omega))
      exact by_empty c1
set_option maxRecDepth 100000 in
theorem fld0 (x y z : Value) (w : World) : (Instr.field 53 (.agg #[x, y, z]) 0).run Tryd.prog w = .ok x w := by kernel_rfl
set_option maxRecDepth 100000 in
theorem fld1 (x y z : Value) (w : World) : (Instr.field 53 (.agg #[x, y, z]) 1).run Tryd.prog w = .ok y w := by kernel_rfl
set_option maxRecDepth 100000 in
theorem fld2 (x y z : Value) (w : World) : (Instr.field 53 (.agg #[x, y, z]) 2).run Tryd.prog w = .ok z w := by kernel_rfl
set_option maxRecDepth 100000 in
theorem modes_core (u x y z : ByteArray) (c1 : KMk Tabs 32 #[.string u] (.agg #[.string x, .string y, .string z])) : KMk Tabs 21 #[.string u] (.string z) := by
  intro w hT
  have HS := Lib.hid (Since.refl w)
  have HT := Lib.hid hT
  have f0 := fld0 (.string x) (.string y) (.string z)
  have f1 := fld1 (.string x) (.string y) (.string z)
  have f2 := fld2 (.string x) (.string y) (.string z)
  clear hT
  go_enter Tryd.func21, Tryd.ntmps21
  go_wp2_with fail
  repeat (first
    | (with_reducible refine c1.calls0 HT.out ?_; intro wz hz; replace HT := Lib.hid (Kp.keep HT.out hz); replace HS := Lib.hid (HS.out.step hz); clear hz; try go_wp2_with fail))
  go_ret
  exact ⟨rfl, HS.out⟩
theorem modes_k (u : ByteArray) (X : ByteArray) (hX : X = bs (lineL u.data.toList).2.2) : KMk Tabs 21 #[.string u] (.string X) := by
  subst hX
  exact modes_core u _ _ _ (by_k u)
/-- may a version be? -/
def verB (v : List UInt8) : Bool := match v with
  | [a, b] => if a = 99 then dig b && b != 48 else v == [48, 48] || num v
  | _ => false
end Table
end Go.Proofs.YtddlaafpianjbaaDoor

/- Package table: Check, Usages. -/
namespace Go.Proofs.YtddlaafpianjbaaDoor
open Go.RowKit
/-- a call that makes a slice of strings of its own, while K holds -/
def KMkS (K : World → Prop) (f : Nat) (args : Array Value) (ss : List ByteArray) : Prop := ∀ w, K w → Calls Tryd.prog f args w fun e w' => ∃ v, e = .returned v ∧ Strs w' w.heap.size v ss ∧ Below w.heap.size w w'
set_option maxRecDepth 100000 in
theorem KMkS.calls0 {K : World → Prop} {f : Nat} {args : Array Value} {ss : List ByteArray} (h : KMkS K f args ss) {w : World} (hT : K w) {R : Ending → World → Prop} (k : ∀ v w', Strs w' w.heap.size v ss → Below w.heap.size w w' → R (.returned v) w') : Calls Tryd.prog f args w R :=
  (h w hT).mono fun _ _ ⟨v, he, ho, hb⟩ => by subst he; exact k v _ ho hb
theorem Strs.since {w w' : World} {base : Nat} {v : Value} {ss : List ByteArray} (h : Strs w base v ss) (hs : Since w w') : Strs w' base v ss := by
  obtain ⟨h1, h2⟩ := h
  refine ⟨h1, ?_⟩
  rcases h2 with h2 | ⟨g, cap, cur, rfl, hb, hg, r⟩
  · exact Or.inl h2
  · exact Or.inr ⟨g, cap, cur, rfl, hb, (Below.block hs g (Array.getElem?_eq_some_iff.1 hg).1).trans hg, r⟩
theorem Strs.lower {w : World} {base base' : Nat} {v : Value} {ss : List ByteArray} (h : Strs w base v ss) (hb : base' ≤ base) : Strs w base' v ss := by
  obtain ⟨h1, h2⟩ := h
  refine ⟨h1, ?_⟩
  rcases h2 with h2 | ⟨g, cap, cur, rfl, hb2, r⟩
  · exact Or.inl h2
  · exact Or.inr ⟨g, cap, cur, rfl, Nat.le_trans hb hb2, r⟩
namespace Table
/-- may the fields be, of a letter? -/
def okB (u m v e l : List UInt8) : Bool := one (lineL u).2.1 l && one (lineL u).2.2 m && verB v && one [69, 78, 83] e
def headV (u m v e : ByteArray) : Value := .agg #[.string u, .string m, .string v, .string e]
def usagesF (l : List UInt8) (k : Nat) : List ByteArray := (((rows.take 10).take k).filter (fun r => one r.2.1 l)).map (fun r => bs r.1)
/-- the usages of a letter -/
def usagesL (l : List UInt8) : List ByteArray := ((rows.take 10).filter (fun r => one r.2.1 l)).map (fun r => bs r.1)
theorem usagesF_step (l : List UInt8) (k : Nat) (r : List UInt8 × List UInt8 × List UInt8) (hk : k < 10) (h : rows[k]? = some r) : usagesF l (k + 1) = if one r.2.1 l then usagesF l k ++ [bs r.1] else usagesF l k := by
  unfold usagesF
  have h2 : (rows.take 10)[k]? = some r := by rw [List.getElem?_take, if_pos hk, h]
  obtain ⟨h3, h4⟩ := List.getElem?_eq_some_iff.1 h2
  rw [List.take_succ_eq_append_getElem h3, h4, List.filter_append, List.map_append]
  by_cases hq : one r.2.1 l = true
  · rw [if_pos hq, List.filter_cons_of_pos (by exact hq)]; rfl
  · rw [if_neg hq, List.filter_cons_of_neg (by exact hq)]; simp
theorem usagesF_len (l : List UInt8) (k : Nat) : (usagesF l k).length ≤ k := by
  unfold usagesF
  rw [List.length_map]
  exact Nat.le_trans (List.length_filter_le _ _) (List.length_take_le _ _)
end Table
end Go.Proofs.YtddlaafpianjbaaDoor

/- The reference of table. -/
namespace Go.Proofs.YtddlaafpianjbaaDoor
open Go.RowKit
namespace Table
set_option maxRecDepth 100000 in
theorem rown_len (s : ByteArray) (h : s.size ≠ 2) : Ret 39 #[.string s] (.bool false) := by
  intro w
  have t1 : ((s.size : Int) == 2) = false := by rw [beq_eq_false_iff_ne]; omega
  go_enter Tryd.func39, Tryd.ntmps39
  go_wp2_with fail
  go_ret
  exact ⟨rfl, rfl⟩
set_option maxRecDepth 100000 in
theorem rown_two (s : ByteArray) (hz : s.size = 2) (h0 : 0 < s.size) (h1 : 1 < s.size) (p q r x : Bool) (k1 : decide ((49 : Int) ≤ (s[0].toNat : Int)) = p) (k2 : decide ((s[0].toNat : Int) ≤ 57) = q) (k3 : decide ((48 : Int) ≤ (s[1].toNat : Int)) = r) (k4 : decide ((s[1].toNat : Int) ≤ 57) = x) : Ret 39 #[.string s] (.bool (p && q && r && x)) := by
  intro w
  have t1 : ((s.size : Int) == 2) = true := by rw [beq_iff_eq]; omega
  cases p
  · go_enter Tryd.func39, Tryd.ntmps39
    go_wp2_with fail
    go_ret
    exact ⟨rfl, rfl⟩
  · cases q
    · go_enter Tryd.func39, Tryd.ntmps39
      go_wp2_with fail
      go_ret
      exact ⟨rfl, rfl⟩
    · cases r
      · go_enter Tryd.func39, Tryd.ntmps39
        go_wp2_with fail
        go_ret
        exact ⟨rfl, rfl⟩
      · go_enter Tryd.func39, Tryd.ntmps39
        go_wp2_with fail
        go_ret
        exact ⟨rfl, rfl⟩
theorem rown_ret (s : ByteArray) (q : Bool) (hq : q = num s.data.toList) : Ret 39 #[.string s] (.bool q) := by
  subst hq
  by_cases h : s.size = 2
  · obtain ⟨a, b, hs⟩ : ∃ a b, s.data.toList = [a, b] := by
      have h2 : s.data.toList.length = 2 := h
      match hl : s.data.toList, h2 with
      | [a, b], _ => exact ⟨a, b, rfl⟩
    obtain rfl : s = ⟨#[a, b]⟩ := ba_ext hs
    have h9 := rown_two ⟨#[a, b]⟩ rfl (show 0 < 2 by decide) (show 1 < 2 by decide) _ _ _ _ rfl rfl rfl rfl
    have e : num [a, b] = (decide ((49 : Int) ≤ (a.toNat : Int)) && decide ((a.toNat : Int) ≤ 57) && decide ((48 : Int) ≤ (b.toNat : Int)) && decide ((b.toNat : Int) ≤ 57)) := by
      show (decide (49 ≤ a.toNat ∧ a.toNat ≤ 57) && decide (48 ≤ b.toNat ∧ b.toNat ≤ 57)) = _
      rw [Bool.eq_iff_iff]
      simp only [Bool.and_eq_true, decide_eq_true_iff]
      omega
    show Ret _ _ (.bool (num [a, b]))
    rw [e]
    exact h9
  · have e : num s.data.toList = false := by
      have h2 : s.data.toList.length ≠ 2 := h
      unfold num
      split
      · rename_i hl; rw [hl] at h2; exact absurd rfl h2
      · rfl
    rw [e]
    exact rown_len s h
def keys : List (List UInt8) := [[66, 48], [68, 48], [68, 49], [75, 48], [75, 49], [77, 51], [77, 54], [77, 55], [80, 48], [83, 48]]
theorem line_none (u : List UInt8) (h : u ∉ keys) : lineL u = if num u then rows.getD 10 none3 else none3 := by
  unfold lineL
  by_cases hn : num u = true
  · rw [if_pos hn, if_pos hn]
  · rw [if_neg hn, if_neg hn]
    by_cases h0 : u = []
    · rw [if_pos h0]
    · rw [if_neg h0]
      have e : rows.find? (fun r => r.1 == u) = none := by
        rw [List.find?_eq_none]
        intro r hr hq
        rw [beq_iff_eq] at hq
        have hall : ∀ r ∈ rows, r.1 ∈ keys ∨ r.1 = [] := by decide
        rcases hall r hr with h1 | h1
        · exact h (hq ▸ h1)
        · exact h0 (hq ▸ h1)
      rw [e]; rfl
set_option maxRecDepth 100000 in
set_option maxHeartbeats 2000000 in
theorem rmodes_ret (u X : ByteArray) (hX : X = bs (lineL u.data.toList).2.2) : Ret 35 #[.string u] (.string X) := by
  intro w
  by_cases hk : u.data.toList ∈ keys
  · simp only [keys, List.mem_cons, List.not_mem_nil, or_false] at hk
    rcases hk with hk | hk | hk | hk | hk | hk | hk | hk | hk | hk
    · obtain rfl : u = ⟨#[66, 48]⟩ := ba_ext hk
      obtain rfl : X = ⟨#[78, 88]⟩ := by rw [hX]; decide +kernel
      clear hX hk
      go_enter Tryd.func35, Tryd.ntmps35
      go_wp2_with fail
      go_ret
      exact ⟨rfl, rfl⟩
    · obtain rfl : u = ⟨#[68, 48]⟩ := ba_ext hk
      obtain rfl : X = ⟨#[66, 68, 69, 78]⟩ := by rw [hX]; decide +kernel
      clear hX hk
      go_enter Tryd.func35, Tryd.ntmps35
      go_wp2_with fail
      go_ret
      exact ⟨rfl, rfl⟩
    · obtain rfl : u = ⟨#[68, 49]⟩ := ba_ext hk
      obtain rfl : X = ⟨#[66, 68, 69, 78]⟩ := by rw [hX]; decide +kernel
      clear hX hk
      go_enter Tryd.func35, Tryd.ntmps35
      go_wp2_with fail
      go_ret
      exact ⟨rfl, rfl⟩
    · obtain rfl : u = ⟨#[75, 48]⟩ := ba_ext hk
      obtain rfl : X = ⟨#[66, 68, 69, 78]⟩ := by rw [hX]; decide +kernel
      clear hX hk
      go_enter Tryd.func35, Tryd.ntmps35
      go_wp2_with fail
      go_ret
      exact ⟨rfl, rfl⟩
    · obtain rfl : u = ⟨#[75, 49]⟩ := ba_ext hk
      obtain rfl : X = ⟨#[66, 68, 69, 78]⟩ := by rw [hX]; decide +kernel
      clear hX hk
      go_enter Tryd.func35, Tryd.ntmps35
      go_wp2_with fail
      go_ret
      exact ⟨rfl, rfl⟩
    · obtain rfl : u = ⟨#[77, 51]⟩ := ba_ext hk
      obtain rfl : X = ⟨#[67, 71, 78, 86]⟩ := by rw [hX]; decide +kernel
      clear hX hk
      go_enter Tryd.func35, Tryd.ntmps35
      go_wp2_with fail
      go_ret
      exact ⟨rfl, rfl⟩
    · obtain rfl : u = ⟨#[77, 54]⟩ := ba_ext hk
      obtain rfl : X = ⟨#[67, 71, 78, 86]⟩ := by rw [hX]; decide +kernel
      clear hX hk
      go_enter Tryd.func35, Tryd.ntmps35
      go_wp2_with fail
      go_ret
      exact ⟨rfl, rfl⟩
    · obtain rfl : u = ⟨#[77, 55]⟩ := ba_ext hk
      obtain rfl : X = ⟨#[67, 71, 78, 86]⟩ := by rw [hX]; decide +kernel
      clear hX hk
      go_enter Tryd.func35, Tryd.ntmps35
      go_wp2_with fail
      go_ret
      exact ⟨rfl, rfl⟩
    · obtain rfl : u = ⟨#[80, 48]⟩ := ba_ext hk
      obtain rfl : X = ⟨#[66, 68, 69, 78]⟩ := by rw [hX]; decide +kernel
      clear hX hk
      go_enter Tryd.func35, Tryd.ntmps35
      go_wp2_with fail
      go_ret
      exact ⟨rfl, rfl⟩
    · obtain rfl : u = ⟨#[83, 48]⟩ := ba_ext hk
      obtain rfl : X = ⟨#[78, 83, 84, 86]⟩ := by rw [hX]; decide +kernel
      clear hX hk
      go_enter Tryd.func35, Tryd.ntmps35
      go_wp2_with fail
      go_ret
      exact ⟨rfl, rfl⟩
  · have g : ∀ v ∈ keys, (u.toList == v) = false := fun v hv => by
      rw [toList_d, beq_eq_false_iff_ne]
      exact fun h9 => hk (h9 ▸ hv)
    have g0 := g [66, 48] (by decide)
    have g1 := g [68, 48] (by decide)
    have g2 := g [68, 49] (by decide)
    have g3 := g [75, 48] (by decide)
    have g4 := g [75, 49] (by decide)
    have g5 := g [77, 51] (by decide)
    have g6 := g [77, 54] (by decide)
    have g7 := g [77, 55] (by decide)
    have g8 := g [80, 48] (by decide)
    have g9 := g [83, 48] (by decide)
    have c1 := rown_ret u _ rfl
    rw [line_none _ hk] at hX
    clear g hk
    cases hn : num u.data.toList with
    | true =>
      rw [hn] at c1 hX
      obtain rfl : X = ⟨#[66, 67, 68, 69, 71, 78, 83, 84, 86, 88]⟩ := hX
      clear hn
      go_enter Tryd.func35, Tryd.ntmps35
      go_wp2_with fail
      repeat (first
        | (with_reducible refine c1.calls ?_; try go_wp2_with fail))
      go_ret
      exact ⟨rfl, rfl⟩
    | false =>
      rw [hn] at c1 hX
      obtain rfl : X = ⟨#[]⟩ := hX
      clear hn
      go_enter Tryd.func35, Tryd.ntmps35
      go_wp2_with fail
      repeat (first
        | (with_reducible refine c1.calls ?_; try go_wp2_with fail))
      go_ret
      exact ⟨rfl, rfl⟩
theorem contains_take (c : UInt8) (l : List UInt8) (k : Nat) (h : k < l.length) : (l.take (k + 1)).contains c = ((l.take k).contains c || c == l[k]) := by
  rw [List.take_succ_eq_append_getElem h, List.contains_eq_any_beq, List.contains_eq_any_beq, List.any_append]
  simp
theorem line_len (u : List UInt8) : (bs (lineL u).2.1).size ≤ 1000000 ∧ (bs (lineL u).2.2).size ≤ 1000000 := by
  have hall : ∀ r ∈ rows, (bs r.2.1).size ≤ 1000000 ∧ (bs r.2.2).size ≤ 1000000 := by decide +kernel
  have h0 : (bs none3.2.1).size ≤ 1000000 ∧ (bs none3.2.2).size ≤ 1000000 := by decide
  unfold lineL
  split
  · exact hall _ (by decide)
  · split
    · exact h0
    · cases h : rows.find? (fun r => r.1 == u) with
      | none => exact h0
      | some r => exact hall r (List.mem_of_find?_eq_some h)
end Table
end Go.Proofs.YtddlaafpianjbaaDoor
