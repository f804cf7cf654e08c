/- Joined texts. -/
-- PACK: YtgfdomdbjiflmaaDoorCurve YtgfdomdbjiflmaaDoorCurve2 YtgfdomdbjiflmaaDoorKind2
import Derived.Test.YtgfdomdbjiflmaaDoorDj20
import Derived.Test.YtgfdomdbjiflmaaDoorDj14
import Derived.Test.YtgfdomdbjiflmaaDoorDj23
import Derived.Laws.CopyOwn

/- Package curve: a number's line. -/
namespace Go.Proofs.YtgfdomdbjiflmaaDoor
open Go.RowKit
namespace Curve
def rowOf (no : Int) : Row := if 1 ≤ no ∧ no ≤ 4 then (rows[(no - 1).toNat]?).getD noneR else noneR
def rowV (r : Row) : Value := .agg #[.string (bs r.1), .int .i64 r.2.1, .string (bs r.2.2.1), .string (bs r.2.2.2)]
set_option maxRecDepth 100000 in
set_option maxHeartbeats 1000000 in
theorem by_1 (x y z : ByteArray) (n : Int) (hr : rows[0]? = some (x.data.toList, n, y.data.toList, z.data.toList)) : KMk Tabs 118 #[.int .i64 1] (.agg #[.string x, .int .i64 n, .string y, .string z]) := by
  intro w hT
  have m0 : w.cell? ⟨2, 0, none⟩ = some (.string x) := by have := hT 0 _ hr 0 _ rfl; rw [← bs_list x]; exact this
  have m1 : w.cell? ⟨2, 1, none⟩ = some (.int .i64 n) := by have := hT 0 _ hr 1 _ rfl; exact this
  have m2 : w.cell? ⟨2, 2, none⟩ = some (.string y) := by have := hT 0 _ hr 2 _ rfl; rw [← bs_list y]; exact this
  have m3 : w.cell? ⟨2, 3, none⟩ = some (.string z) := by have := hT 0 _ hr 3 _ rfl; rw [← bs_list z]; exact this
  have hlt := hT.lt
  clear hT hr
  go_enter Tryd.func118, Tryd.ntmps118
  go_wp2_with fail
  exact bodyPost_ret (v := .agg #[.string x, .int .i64 n, .string y, .string z]) (by simp [results, Tryd.results118, go_sem]; try rfl) rfl ⟨rfl, (Below.refl _ w).alloc (Nat.le_refl _) _⟩
set_option maxRecDepth 100000 in
set_option maxHeartbeats 1000000 in
theorem by_2 (x y z : ByteArray) (n : Int) (hr : rows[1]? = some (x.data.toList, n, y.data.toList, z.data.toList)) : KMk Tabs 118 #[.int .i64 2] (.agg #[.string x, .int .i64 n, .string y, .string z]) := by
  intro w hT
  have m0 : w.cell? ⟨2, 4, none⟩ = some (.string x) := by have := hT 1 _ hr 0 _ rfl; rw [← bs_list x]; exact this
  have m1 : w.cell? ⟨2, 5, none⟩ = some (.int .i64 n) := by have := hT 1 _ hr 1 _ rfl; exact this
  have m2 : w.cell? ⟨2, 6, none⟩ = some (.string y) := by have := hT 1 _ hr 2 _ rfl; rw [← bs_list y]; exact this
  have m3 : w.cell? ⟨2, 7, none⟩ = some (.string z) := by have := hT 1 _ hr 3 _ rfl; rw [← bs_list z]; exact this
  have hlt := hT.lt
  clear hT hr
  go_enter Tryd.func118, Tryd.ntmps118
  go_wp2_with fail
  exact bodyPost_ret (v := .agg #[.string x, .int .i64 n, .string y, .string z]) (by simp [results, Tryd.results118, go_sem]; try rfl) rfl ⟨rfl, (Below.refl _ w).alloc (Nat.le_refl _) _⟩
set_option maxRecDepth 100000 in
set_option maxHeartbeats 1000000 in
theorem by_3 (x y z : ByteArray) (n : Int) (hr : rows[2]? = some (x.data.toList, n, y.data.toList, z.data.toList)) : KMk Tabs 118 #[.int .i64 3] (.agg #[.string x, .int .i64 n, .string y, .string z]) := by
  intro w hT
  have m0 : w.cell? ⟨2, 8, none⟩ = some (.string x) := by have := hT 2 _ hr 0 _ rfl; rw [← bs_list x]; exact this
  have m1 : w.cell? ⟨2, 9, none⟩ = some (.int .i64 n) := by have := hT 2 _ hr 1 _ rfl; exact this
  have m2 : w.cell? ⟨2, 10, none⟩ = some (.string y) := by have := hT 2 _ hr 2 _ rfl; rw [← bs_list y]; exact this
  have m3 : w.cell? ⟨2, 11, none⟩ = some (.string z) := by have := hT 2 _ hr 3 _ rfl; rw [← bs_list z]; exact this
  have hlt := hT.lt
  clear hT hr
  go_enter Tryd.func118, Tryd.ntmps118
  go_wp2_with fail
  exact bodyPost_ret (v := .agg #[.string x, .int .i64 n, .string y, .string z]) (by simp [results, Tryd.results118, go_sem]; try rfl) rfl ⟨rfl, (Below.refl _ w).alloc (Nat.le_refl _) _⟩
set_option maxRecDepth 100000 in
set_option maxHeartbeats 1000000 in
theorem by_4 (x y z : ByteArray) (n : Int) (hr : rows[3]? = some (x.data.toList, n, y.data.toList, z.data.toList)) : KMk Tabs 118 #[.int .i64 4] (.agg #[.string x, .int .i64 n, .string y, .string z]) := by
  intro w hT
  have m0 : w.cell? ⟨2, 12, none⟩ = some (.string x) := by have := hT 3 _ hr 0 _ rfl; rw [← bs_list x]; exact this
  have m1 : w.cell? ⟨2, 13, none⟩ = some (.int .i64 n) := by have := hT 3 _ hr 1 _ rfl; exact this
  have m2 : w.cell? ⟨2, 14, none⟩ = some (.string y) := by have := hT 3 _ hr 2 _ rfl; rw [← bs_list y]; exact this
  have m3 : w.cell? ⟨2, 15, none⟩ = some (.string z) := by have := hT 3 _ hr 3 _ rfl; rw [← bs_list z]; exact this
  have hlt := hT.lt
  clear hT hr
  go_enter Tryd.func118, Tryd.ntmps118
  go_wp2_with fail
  exact bodyPost_ret (v := .agg #[.string x, .int .i64 n, .string y, .string z]) (by simp [results, Tryd.results118, go_sem]; try rfl) rfl ⟨rfl, (Below.refl _ w).alloc (Nat.le_refl _) _⟩
set_option maxRecDepth 100000 in
theorem by_out (no : Int) (h : no < 1 ∨ 4 < no) : Mak 118 #[.int .i64 no] (.agg #[.string ⟨#[]⟩, .int .i64 0, .string ⟨#[]⟩, .string ⟨#[]⟩]) := by
  intro w
  by_cases h1 : no < 1
  · clear h
    go_enter Tryd.func118, Tryd.ntmps118
    go_wp2_with fail
    exact bodyPost_ret (v := .agg #[.string ⟨#[]⟩, .int .i64 0, .string ⟨#[]⟩, .string ⟨#[]⟩]) (by simp [results, Tryd.results118, go_sem]; try rfl) rfl ⟨rfl, (Below.refl _ w).alloc (Nat.le_refl _) _⟩
  · have h2 : 4 < no := by omega
    clear h
    go_enter Tryd.func118, Tryd.ntmps118
    go_wp2_with fail
    exact bodyPost_ret (v := .agg #[.string ⟨#[]⟩, .int .i64 0, .string ⟨#[]⟩, .string ⟨#[]⟩]) (by simp [results, Tryd.results118, go_sem]; try rfl) rfl ⟨rfl, (Below.refl _ w).alloc (Nat.le_refl _) _⟩
theorem row_bs (r : Row) : r = ((bs r.1).data.toList, r.2.1, (bs r.2.2.1).data.toList, (bs r.2.2.2).data.toList) := by rw [list_bs, list_bs, list_bs]
theorem row_cases (no : Int) : (no < 1 ∨ 4 < no) ∨ no = 1 ∨ no = 2 ∨ no = 3 ∨ no = 4 := by omega
theorem rowOf_out (no : Int) (h : no < 1 ∨ 4 < no) : rowOf no = noneR := if_neg (by omega)
theorem by_k (no : Int) : KMk Tabs 118 #[.int .i64 no] (rowV (rowOf no)) := by
  rcases row_cases no with h | rfl | rfl | rfl | rfl
  · rw [rowOf_out no h]; exact (by_out no h).k
  · exact by_1 _ _ _ _ (congrArg some (row_bs _))
  · exact by_2 _ _ _ _ (congrArg some (row_bs _))
  · exact by_3 _ _ _ _ (congrArg some (row_bs _))
  · exact by_4 _ _ _ _ (congrArg some (row_bs _))
set_option maxRecDepth 100000 in
theorem fld0 (x y z u : Value) (w : World) : (Instr.field 164 (.agg #[x, y, z, u]) 0).run Tryd.prog w = .ok x w := by kernel_rfl
set_option maxRecDepth 100000 in
theorem fld1 (x y z u : Value) (w : World) : (Instr.field 164 (.agg #[x, y, z, u]) 1).run Tryd.prog w = .ok y w := by kernel_rfl
set_option maxRecDepth 100000 in
theorem fld2 (x y z u : Value) (w : World) : (Instr.field 164 (.agg #[x, y, z, u]) 2).run Tryd.prog w = .ok z w := by kernel_rfl
set_option maxRecDepth 100000 in
theorem fld3 (x y z u : Value) (w : World) : (Instr.field 164 (.agg #[x, y, z, u]) 3).run Tryd.prog w = .ok u w := by kernel_rfl
set_option maxRecDepth 100000 in
theorem width_core (no : Int) (x y z : ByteArray) (n : Int) (c1 : KMk Tabs 118 #[.int .i64 no] (.agg #[.string x, .int .i64 n, .string y, .string z])) : KMk Tabs 104 #[.int .i64 no] (.int .i64 n) := by
  intro w hT
  have HS := Lib.hid (Since.refl w)
  have HT := Lib.hid hT
  have f0 := fld0 (.string x) (.int .i64 n) (.string y) (.string z)
  have f1 := fld1 (.string x) (.int .i64 n) (.string y) (.string z)
  clear hT
  go_enter Tryd.func104, Tryd.ntmps104
  go_wp2_with fail
  repeat (first
    | (with_reducible refine c1.calls0 HT.out ?_; intro wz hz; replace HT := Lib.hid (Kp.keep HT.out hz); replace HS := Lib.hid (HS.out.step hz); clear hz; try go_wp2_with fail))
  go_ret
  exact ⟨rfl, HS.out⟩
theorem width_k (no : Int) (X : Int) (hX : X = (rowOf no).2.1) : KMk Tabs 104 #[.int .i64 no] (.int .i64 X) := by
  subst hX
  exact width_core no _ _ _ _ (by_k no)
def ordS (r : Row) : ByteArray := Dig.unS r.2.2.2
set_option maxRecDepth 100000 in
theorem order_core (no : Int) (x y z X : ByteArray) (n : Int) (q : Bool) (c1 : KMk Tabs 118 #[.int .i64 no] (.agg #[.string x, .int .i64 n, .string y, .string z])) (c2 : Mak 117 #[.string z] (.tuple #[.string X, .bool q])) : KMk Tabs 106 #[.int .i64 no] (.string X) := by
  intro w hT
  have HS := Lib.hid (Since.refl w)
  have HT := Lib.hid hT
  have f0 := fld3 (.string x) (.int .i64 n) (.string y) (.string z)
  clear hT
  go_enter Tryd.func106, Tryd.ntmps106
  go_wp2_with fail
  repeat (first
    | (with_reducible refine c1.calls0 HT.out ?_; intro wz hz; replace HT := Lib.hid (Kp.keep HT.out hz); replace HS := Lib.hid (HS.out.step hz); clear hz; try go_wp2_with fail)
    | (with_reducible refine c2.calls0 ?_; intro wz hz; replace HT := Lib.hid (Kp.keep HT.out hz); replace HS := Lib.hid (HS.out.step hz); clear hz; try go_wp2_with fail))
  go_ret
  exact ⟨rfl, HS.out⟩
theorem row_even (no : Int) : (rowOf no).2.2.2.length ≤ 200 ∧ (rowOf no).2.2.2.length % 2 = 0 := by
  rcases row_cases no with h | rfl | rfl | rfl | rfl
  · rw [rowOf_out no h]; decide +kernel
  · decide +kernel
  · decide +kernel
  · decide +kernel
  · decide +kernel
theorem unhex_ev (s : ByteArray) (hm : s.size ≤ 200) (h : s.size % 2 = 0) : Mak 117 #[.string s] (.tuple #[.string (Dig.unS s.data.toList), .bool (Dig.unB s.data.toList)]) := by
  have hl : s.data.toList.length = s.size := rfl
  have e : Dig.unB s.data.toList = Dig.okN s.data.toList (s.size / 2) := by
    unfold Dig.unB
    rw [hl, decide_eq_true h, Bool.true_and]
  exact fun w => Dig.unhex_even s (s.size / 2) w (by omega) (by omega) _ _ e (by unfold Dig.unS; rw [e, hl])
theorem order_k (no : Int) (X : ByteArray) (hX : X = ordS (rowOf no)) : KMk Tabs 106 #[.int .i64 no] (.string X) := by
  subst hX
  obtain ⟨h1, h2⟩ := row_even no
  have hz : (bs (rowOf no).2.2.2).size = (rowOf no).2.2.2.length := by
    show (bs (rowOf no).2.2.2).data.toList.length = _
    rw [list_bs]
  have c2 := unhex_ev (bs (rowOf no).2.2.2) (by omega) (by omega)
  rw [list_bs] at c2
  exact order_core no _ _ _ _ _ _ (by_k no) c2
/-- calls that make ints while K holds -/
def KMkI (K : World → Prop) (f : Nat) (args : Array Value) (xs : List Int) : Prop := ∀ w, K w → Calls Tryd.prog f args w fun e w' => ∃ v, e = .returned v ∧ IntsS w' v xs ∧ Below w.heap.size w w'
end Curve
end Go.Proofs.YtgfdomdbjiflmaaDoor

/- Package curve: the line that is wanted; strings.Trim of one byte; scalars. -/
namespace Go.Proofs.YtgfdomdbjiflmaaDoor
open Go.RowKit
namespace Curve
/-- the number of the first line that p takes -/
def fndL (p : Row → Bool) : List Row → Nat → Int × Bool
  | [], _ => (0, false)
  | r :: l, k => if p r then ((k : Int) + 1, true) else fndL p l (k + 1)
/-- a string cell stands -/
def KS (b : Nat) (s : ByteArray) : World → Prop := fun w => w.cell? ⟨b, 0, none⟩ = some (.string s)
instance (b : Nat) (s : ByteArray) : Kp (KS b s) := ⟨fun h hb => (hb.cell (p := ⟨b, 0, none⟩) (block_lt_of_cell h)).trans h⟩
def KI (b : Nat) (s : Int) : World → Prop := fun w => w.cell? ⟨b, 0, none⟩ = some (.int .i64 s)
instance (b : Nat) (s : Int) : Kp (KI b s) := ⟨fun h hb => (hb.cell (p := ⟨b, 0, none⟩) (block_lt_of_cell h)).trans h⟩
end Curve
end Go.Proofs.YtgfdomdbjiflmaaDoor

/- Package kind: a number's line; what is found. -/
namespace Go.Proofs.YtgfdomdbjiflmaaDoor
open Go.RowKit
namespace Kind
open Curve (KMkI)
def rowOf (no : Int) : Row := if 1 ≤ no ∧ no ≤ 11 then (rows[(no - 1).toNat]?).getD noneR else noneR
def rowV (r : Row) : Value := .agg #[.string (bs r.1), .int .i64 r.2.1, .string (bs r.2.2.1), .int .i64 r.2.2.2.1, .string (bs r.2.2.2.2)]
set_option maxRecDepth 100000 in
set_option maxHeartbeats 1000000 in
theorem by_1 (x y z : ByteArray) (n c : Int) (hr : rows[0]? = some (x.data.toList, n, y.data.toList, c, z.data.toList)) : KMk Tabs 89 #[.int .i64 1] (.agg #[.string x, .int .i64 n, .string y, .int .i64 c, .string z]) := by
  intro w hT
  have m0 : w.cell? ⟨1, 0, none⟩ = some (.string x) := by have := hT 0 _ hr 0 _ rfl; rw [← bs_list x]; exact this
  have m1 : w.cell? ⟨1, 1, none⟩ = some (.int .i64 n) := by have := hT 0 _ hr 1 _ rfl; exact this
  have m2 : w.cell? ⟨1, 2, none⟩ = some (.string y) := by have := hT 0 _ hr 2 _ rfl; rw [← bs_list y]; exact this
  have m3 : w.cell? ⟨1, 3, none⟩ = some (.int .i64 c) := by have := hT 0 _ hr 3 _ rfl; exact this
  have m4 : w.cell? ⟨1, 4, none⟩ = some (.string z) := by have := hT 0 _ hr 4 _ rfl; rw [← bs_list z]; exact this
  have hlt := hT.lt
  clear hT hr
  go_enter Tryd.func89, Tryd.ntmps89
  go_wp2_with fail
  exact bodyPost_ret (v := .agg #[.string x, .int .i64 n, .string y, .int .i64 c, .string z]) (by simp [results, Tryd.results89, go_sem]; try rfl) rfl ⟨rfl, (Below.refl _ w).alloc (Nat.le_refl _) _⟩
set_option maxRecDepth 100000 in
set_option maxHeartbeats 1000000 in
theorem by_2 (x y z : ByteArray) (n c : Int) (hr : rows[1]? = some (x.data.toList, n, y.data.toList, c, z.data.toList)) : KMk Tabs 89 #[.int .i64 2] (.agg #[.string x, .int .i64 n, .string y, .int .i64 c, .string z]) := by
  intro w hT
  have m0 : w.cell? ⟨1, 5, none⟩ = some (.string x) := by have := hT 1 _ hr 0 _ rfl; rw [← bs_list x]; exact this
  have m1 : w.cell? ⟨1, 6, none⟩ = some (.int .i64 n) := by have := hT 1 _ hr 1 _ rfl; exact this
  have m2 : w.cell? ⟨1, 7, none⟩ = some (.string y) := by have := hT 1 _ hr 2 _ rfl; rw [← bs_list y]; exact this
  have m3 : w.cell? ⟨1, 8, none⟩ = some (.int .i64 c) := by have := hT 1 _ hr 3 _ rfl; exact this
  have m4 : w.cell? ⟨1, 9, none⟩ = some (.string z) := by have := hT 1 _ hr 4 _ rfl; rw [← bs_list z]; exact this
  have hlt := hT.lt
  clear hT hr
  go_enter Tryd.func89, Tryd.ntmps89
  go_wp2_with fail
  exact bodyPost_ret (v := .agg #[.string x, .int .i64 n, .string y, .int .i64 c, .string z]) (by simp [results, Tryd.results89, go_sem]; try rfl) rfl ⟨rfl, (Below.refl _ w).alloc (Nat.le_refl _) _⟩
set_option maxRecDepth 100000 in
set_option maxHeartbeats 1000000 in
theorem by_3 (x y z : ByteArray) (n c : Int) (hr : rows[2]? = some (x.data.toList, n, y.data.toList, c, z.data.toList)) : KMk Tabs 89 #[.int .i64 3] (.agg #[.string x, .int .i64 n, .string y, .int .i64 c, .string z]) := by
  intro w hT
  have m0 : w.cell? ⟨1, 10, none⟩ = some (.string x) := by have := hT 2 _ hr 0 _ rfl; rw [← bs_list x]; exact this
  have m1 : w.cell? ⟨1, 11, none⟩ = some (.int .i64 n) := by have := hT 2 _ hr 1 _ rfl; exact this
  have m2 : w.cell? ⟨1, 12, none⟩ = some (.string y) := by have := hT 2 _ hr 2 _ rfl; rw [← bs_list y]; exact this
  have m3 : w.cell? ⟨1, 13, none⟩ = some (.int .i64 c) := by have := hT 2 _ hr 3 _ rfl; exact this
  have m4 : w.cell? ⟨1, 14, none⟩ = some (.string z) := by have := hT 2 _ hr 4 _ rfl; rw [← bs_list z]; exact this
  have hlt := hT.lt
  clear hT hr
  go_enter Tryd.func89, Tryd.ntmps89
  go_wp2_with fail
  exact bodyPost_ret (v := .agg #[.string x, .int .i64 n, .string y, .int .i64 c, .string z]) (by simp [results, Tryd.results89, go_sem]; try rfl) rfl ⟨rfl, (Below.refl _ w).alloc (Nat.le_refl _) _⟩
set_option maxRecDepth 100000 in
set_option maxHeartbeats 1000000 in
theorem by_4 (x y z : ByteArray) (n c : Int) (hr : rows[3]? = some (x.data.toList, n, y.data.toList, c, z.data.toList)) : KMk Tabs 89 #[.int .i64 4] (.agg #[.string x, .int .i64 n, .string y, .int .i64 c, .string z]) := by
  intro w hT
  have m0 : w.cell? ⟨1, 15, none⟩ = some (.string x) := by have := hT 3 _ hr 0 _ rfl; rw [← bs_list x]; exact this
  have m1 : w.cell? ⟨1, 16, none⟩ = some (.int .i64 n) := by have := hT 3 _ hr 1 _ rfl; exact this
  have m2 : w.cell? ⟨1, 17, none⟩ = some (.string y) := by have := hT 3 _ hr 2 _ rfl; rw [← bs_list y]; exact this
  have m3 : w.cell? ⟨1, 18, none⟩ = some (.int .i64 c) := by have := hT 3 _ hr 3 _ rfl; exact this
  have m4 : w.cell? ⟨1, 19, none⟩ = some (.string z) := by have := hT 3 _ hr 4 _ rfl; rw [← bs_list z]; exact this
  have hlt := hT.lt
  clear hT hr
  go_enter Tryd.func89, Tryd.ntmps89
  go_wp2_with fail
  exact bodyPost_ret (v := .agg #[.string x, .int .i64 n, .string y, .int .i64 c, .string z]) (by simp [results, Tryd.results89, go_sem]; try rfl) rfl ⟨rfl, (Below.refl _ w).alloc (Nat.le_refl _) _⟩
set_option maxRecDepth 100000 in
set_option maxHeartbeats 1000000 in
theorem by_5 (x y z : ByteArray) (n c : Int) (hr : rows[4]? = some (x.data.toList, n, y.data.toList, c, z.data.toList)) : KMk Tabs 89 #[.int .i64 5] (.agg #[.string x, .int .i64 n, .string y, .int .i64 c, .string z]) := by
  intro w hT
  have m0 : w.cell? ⟨1, 20, none⟩ = some (.string x) := by have := hT 4 _ hr 0 _ rfl; rw [← bs_list x]; exact this
  have m1 : w.cell? ⟨1, 21, none⟩ = some (.int .i64 n) := by have := hT 4 _ hr 1 _ rfl; exact this
  have m2 : w.cell? ⟨1, 22, none⟩ = some (.string y) := by have := hT 4 _ hr 2 _ rfl; rw [← bs_list y]; exact this
  have m3 : w.cell? ⟨1, 23, none⟩ = some (.int .i64 c) := by have := hT 4 _ hr 3 _ rfl; exact this
  have m4 : w.cell? ⟨1, 24, none⟩ = some (.string z) := by have := hT 4 _ hr 4 _ rfl; rw [← bs_list z]; exact this
  have hlt := hT.lt
  clear hT hr
  go_enter Tryd.func89, Tryd.ntmps89
  go_wp2_with fail
  exact bodyPost_ret (v := .agg #[.string x, .int .i64 n, .string y, .int .i64 c, .string z]) (by simp [results, Tryd.results89, go_sem]; try rfl) rfl ⟨rfl, (Below.refl _ w).alloc (Nat.le_refl _) _⟩
set_option maxRecDepth 100000 in
set_option maxHeartbeats 1000000 in
theorem by_6 (x y z : ByteArray) (n c : Int) (hr : rows[5]? = some (x.data.toList, n, y.data.toList, c, z.data.toList)) : KMk Tabs 89 #[.int .i64 6] (.agg #[.string x, .int .i64 n, .string y, .int .i64 c, .string z]) := by
  intro w hT
  have m0 : w.cell? ⟨1, 25, none⟩ = some (.string x) := by have := hT 5 _ hr 0 _ rfl; rw [← bs_list x]; exact this
  have m1 : w.cell? ⟨1, 26, none⟩ = some (.int .i64 n) := by have := hT 5 _ hr 1 _ rfl; exact this
  have m2 : w.cell? ⟨1, 27, none⟩ = some (.string y) := by have := hT 5 _ hr 2 _ rfl; rw [← bs_list y]; exact this
  have m3 : w.cell? ⟨1, 28, none⟩ = some (.int .i64 c) := by have := hT 5 _ hr 3 _ rfl; exact this
  have m4 : w.cell? ⟨1, 29, none⟩ = some (.string z) := by have := hT 5 _ hr 4 _ rfl; rw [← bs_list z]; exact this
  have hlt := hT.lt
  clear hT hr
  go_enter Tryd.func89, Tryd.ntmps89
  go_wp2_with fail
  exact bodyPost_ret (v := .agg #[.string x, .int .i64 n, .string y, .int .i64 c, .string z]) (by simp [results, Tryd.results89, go_sem]; try rfl) rfl ⟨rfl, (Below.refl _ w).alloc (Nat.le_refl _) _⟩
set_option maxRecDepth 100000 in
set_option maxHeartbeats 1000000 in
theorem by_7 (x y z : ByteArray) (n c : Int) (hr : rows[6]? = some (x.data.toList, n, y.data.toList, c, z.data.toList)) : KMk Tabs 89 #[.int .i64 7] (.agg #[.string x, .int .i64 n, .string y, .int .i64 c, .string z]) := by
  intro w hT
  have m0 : w.cell? ⟨1, 30, none⟩ = some (.string x) := by have := hT 6 _ hr 0 _ rfl; rw [← bs_list x]; exact this
  have m1 : w.cell? ⟨1, 31, none⟩ = some (.int .i64 n) := by have := hT 6 _ hr 1 _ rfl; exact this
  have m2 : w.cell? ⟨1, 32, none⟩ = some (.string y) := by have := hT 6 _ hr 2 _ rfl; rw [← bs_list y]; exact this
  have m3 : w.cell? ⟨1, 33, none⟩ = some (.int .i64 c) := by have := hT 6 _ hr 3 _ rfl; exact this
  have m4 : w.cell? ⟨1, 34, none⟩ = some (.string z) := by have := hT 6 _ hr 4 _ rfl; rw [← bs_list z]; exact this
  have hlt := hT.lt
  clear hT hr
  go_enter Tryd.func89, Tryd.ntmps89
  go_wp2_with fail
  exact bodyPost_ret (v := .agg #[.string x, .int .i64 n, .string y, .int .i64 c, .string z]) (by simp [results, Tryd.results89, go_sem]; try rfl) rfl ⟨rfl, (Below.refl _ w).alloc (Nat.le_refl _) _⟩
set_option maxRecDepth 100000 in
set_option maxHeartbeats 1000000 in
theorem by_8 (x y z : ByteArray) (n c : Int) (hr : rows[7]? = some (x.data.toList, n, y.data.toList, c, z.data.toList)) : KMk Tabs 89 #[.int .i64 8] (.agg #[.string x, .int .i64 n, .string y, .int .i64 c, .string z]) := by
  intro w hT
  have m0 : w.cell? ⟨1, 35, none⟩ = some (.string x) := by have := hT 7 _ hr 0 _ rfl; rw [← bs_list x]; exact this
  have m1 : w.cell? ⟨1, 36, none⟩ = some (.int .i64 n) := by have := hT 7 _ hr 1 _ rfl; exact this
  have m2 : w.cell? ⟨1, 37, none⟩ = some (.string y) := by have := hT 7 _ hr 2 _ rfl; rw [← bs_list y]; exact this
  have m3 : w.cell? ⟨1, 38, none⟩ = some (.int .i64 c) := by have := hT 7 _ hr 3 _ rfl; exact this
  have m4 : w.cell? ⟨1, 39, none⟩ = some (.string z) := by have := hT 7 _ hr 4 _ rfl; rw [← bs_list z]; exact this
  have hlt := hT.lt
  clear hT hr
  go_enter Tryd.func89, Tryd.ntmps89
  go_wp2_with fail
  exact bodyPost_ret (v := .agg #[.string x, .int .i64 n, .string y, .int .i64 c, .string z]) (by simp [results, Tryd.results89, go_sem]; try rfl) rfl ⟨rfl, (Below.refl _ w).alloc (Nat.le_refl _) _⟩
set_option maxRecDepth 100000 in
set_option maxHeartbeats 1000000 in
theorem by_9 (x y z : ByteArray) (n c : Int) (hr : rows[8]? = some (x.data.toList, n, y.data.toList, c, z.data.toList)) : KMk Tabs 89 #[.int .i64 9] (.agg #[.string x, .int .i64 n, .string y, .int .i64 c, .string z]) := by
  intro w hT
  have m0 : w.cell? ⟨1, 40, none⟩ = some (.string x) := by have := hT 8 _ hr 0 _ rfl; rw [← bs_list x]; exact this
  have m1 : w.cell? ⟨1, 41, none⟩ = some (.int .i64 n) := by have := hT 8 _ hr 1 _ rfl; exact this
  have m2 : w.cell? ⟨1, 42, none⟩ = some (.string y) := by have := hT 8 _ hr 2 _ rfl; rw [← bs_list y]; exact this
  have m3 : w.cell? ⟨1, 43, none⟩ = some (.int .i64 c) := by have := hT 8 _ hr 3 _ rfl; exact this
  have m4 : w.cell? ⟨1, 44, none⟩ = some (.string z) := by have := hT 8 _ hr 4 _ rfl; rw [← bs_list z]; exact this
  have hlt := hT.lt
  clear hT hr
  go_enter Tryd.func89, Tryd.ntmps89
  go_wp2_with fail
  exact bodyPost_ret (v := .agg #[.string x, .int .i64 n, .string y, .int .i64 c, .string z]) (by simp [results, Tryd.results89, go_sem]; try rfl) rfl ⟨rfl, (Below.refl _ w).alloc (Nat.le_refl _) _⟩
set_option maxRecDepth 100000 in
set_option maxHeartbeats 1000000 in
theorem by_10 (x y z : ByteArray) (n c : Int) (hr : rows[9]? = some (x.data.toList, n, y.data.toList, c, z.data.toList)) : KMk Tabs 89 #[.int .i64 10] (.agg #[.string x, .int .i64 n, .string y, .int .i64 c, .string z]) := by
  intro w hT
  have m0 : w.cell? ⟨1, 45, none⟩ = some (.string x) := by have := hT 9 _ hr 0 _ rfl; rw [← bs_list x]; exact this
  have m1 : w.cell? ⟨1, 46, none⟩ = some (.int .i64 n) := by have := hT 9 _ hr 1 _ rfl; exact this
  have m2 : w.cell? ⟨1, 47, none⟩ = some (.string y) := by have := hT 9 _ hr 2 _ rfl; rw [← bs_list y]; exact this
  have m3 : w.cell? ⟨1, 48, none⟩ = some (.int .i64 c) := by have := hT 9 _ hr 3 _ rfl; exact this
  have m4 : w.cell? ⟨1, 49, none⟩ = some (.string z) := by have := hT 9 _ hr 4 _ rfl; rw [← bs_list z]; exact this
  have hlt := hT.lt
  clear hT hr
  go_enter Tryd.func89, Tryd.ntmps89
  go_wp2_with fail
  exact bodyPost_ret (v := .agg #[.string x, .int .i64 n, .string y, .int .i64 c, .string z]) (by simp [results, Tryd.results89, go_sem]; try rfl) rfl ⟨rfl, (Below.refl _ w).alloc (Nat.le_refl _) _⟩
set_option maxRecDepth 100000 in
set_option maxHeartbeats 1000000 in
theorem by_11 (x y z : ByteArray) (n c : Int) (hr : rows[10]? = some (x.data.toList, n, y.data.toList, c, z.data.toList)) : KMk Tabs 89 #[.int .i64 11] (.agg #[.string x, .int .i64 n, .string y, .int .i64 c, .string z]) := by
  intro w hT
  have m0 : w.cell? ⟨1, 50, none⟩ = some (.string x) := by have := hT 10 _ hr 0 _ rfl; rw [← bs_list x]; exact this
  have m1 : w.cell? ⟨1, 51, none⟩ = some (.int .i64 n) := by have := hT 10 _ hr 1 _ rfl; exact this
  have m2 : w.cell? ⟨1, 52, none⟩ = some (.string y) := by have := hT 10 _ hr 2 _ rfl; rw [← bs_list y]; exact this
  have m3 : w.cell? ⟨1, 53, none⟩ = some (.int .i64 c) := by have := hT 10 _ hr 3 _ rfl; exact this
  have m4 : w.cell? ⟨1, 54, none⟩ = some (.string z) := by have := hT 10 _ hr 4 _ rfl; rw [← bs_list z]; exact this
  have hlt := hT.lt
  clear hT hr
  go_enter Tryd.func89, Tryd.ntmps89
  go_wp2_with fail
  exact bodyPost_ret (v := .agg #[.string x, .int .i64 n, .string y, .int .i64 c, .string z]) (by simp [results, Tryd.results89, go_sem]; try rfl) rfl ⟨rfl, (Below.refl _ w).alloc (Nat.le_refl _) _⟩
set_option maxRecDepth 100000 in
theorem by_out (no : Int) (h : no < 1 ∨ 11 < no) : Mak 89 #[.int .i64 no] (.agg #[.string ⟨#[]⟩, .int .i64 0, .string ⟨#[]⟩, .int .i64 0, .string ⟨#[]⟩]) := by
  intro w
  by_cases h1 : no < 1
  · clear h
    go_enter Tryd.func89, Tryd.ntmps89
    go_wp2_with fail
    exact bodyPost_ret (v := .agg #[.string ⟨#[]⟩, .int .i64 0, .string ⟨#[]⟩, .int .i64 0, .string ⟨#[]⟩]) (by simp [results, Tryd.results89, go_sem]; try rfl) rfl ⟨rfl, (Below.refl _ w).alloc (Nat.le_refl _) _⟩
  · have h2 : 11 < no := by omega
    clear h
    go_enter Tryd.func89, Tryd.ntmps89
    go_wp2_with fail
    exact bodyPost_ret (v := .agg #[.string ⟨#[]⟩, .int .i64 0, .string ⟨#[]⟩, .int .i64 0, .string ⟨#[]⟩]) (by simp [results, Tryd.results89, go_sem]; try rfl) rfl ⟨rfl, (Below.refl _ w).alloc (Nat.le_refl _) _⟩
theorem row_bs (r : Row) : r = ((bs r.1).data.toList, r.2.1, (bs r.2.2.1).data.toList, r.2.2.2.1, (bs r.2.2.2.2).data.toList) := by rw [list_bs, list_bs, list_bs]
theorem row_cases (no : Int) : (no < 1 ∨ 11 < no) ∨ no = 1 ∨ no = 2 ∨ no = 3 ∨ no = 4 ∨ no = 5 ∨ no = 6 ∨ no = 7 ∨ no = 8 ∨ no = 9 ∨ no = 10 ∨ no = 11 := by omega
theorem rowOf_out (no : Int) (h : no < 1 ∨ 11 < no) : rowOf no = noneR := if_neg (by omega)
theorem by_k (no : Int) : KMk Tabs 89 #[.int .i64 no] (rowV (rowOf no)) := by
  rcases row_cases no with h | rfl | rfl | rfl | rfl | rfl | rfl | rfl | rfl | rfl | rfl | rfl
  · rw [rowOf_out no h]; exact (by_out no h).k
  · exact by_1 _ _ _ _ _ (congrArg some (row_bs _))
  · exact by_2 _ _ _ _ _ (congrArg some (row_bs _))
  · exact by_3 _ _ _ _ _ (congrArg some (row_bs _))
  · exact by_4 _ _ _ _ _ (congrArg some (row_bs _))
  · exact by_5 _ _ _ _ _ (congrArg some (row_bs _))
  · exact by_6 _ _ _ _ _ (congrArg some (row_bs _))
  · exact by_7 _ _ _ _ _ (congrArg some (row_bs _))
  · exact by_8 _ _ _ _ _ (congrArg some (row_bs _))
  · exact by_9 _ _ _ _ _ (congrArg some (row_bs _))
  · exact by_10 _ _ _ _ _ (congrArg some (row_bs _))
  · exact by_11 _ _ _ _ _ (congrArg some (row_bs _))
set_option maxRecDepth 100000 in
theorem fld0 (x y z u v : Value) (w : World) : (Instr.field 118 (.agg #[x, y, z, u, v]) 0).run Tryd.prog w = .ok x w := by kernel_rfl
set_option maxRecDepth 100000 in
theorem fld1 (x y z u v : Value) (w : World) : (Instr.field 118 (.agg #[x, y, z, u, v]) 1).run Tryd.prog w = .ok y w := by kernel_rfl
set_option maxRecDepth 100000 in
theorem fld2 (x y z u v : Value) (w : World) : (Instr.field 118 (.agg #[x, y, z, u, v]) 2).run Tryd.prog w = .ok z w := by kernel_rfl
set_option maxRecDepth 100000 in
theorem fld3 (x y z u v : Value) (w : World) : (Instr.field 118 (.agg #[x, y, z, u, v]) 3).run Tryd.prog w = .ok u w := by kernel_rfl
set_option maxRecDepth 100000 in
theorem fld4 (x y z u v : Value) (w : World) : (Instr.field 118 (.agg #[x, y, z, u, v]) 4).run Tryd.prog w = .ok v w := by kernel_rfl
set_option maxRecDepth 100000 in
theorem letter_core (no : Int) (x y z : ByteArray) (n c : Int) (c1 : KMk Tabs 89 #[.int .i64 no] (.agg #[.string x, .int .i64 n, .string y, .int .i64 c, .string z])) : KMk Tabs 77 #[.int .i64 no] (.string y) := by
  intro w hT
  have HS := Lib.hid (Since.refl w)
  have HT := Lib.hid hT
  have f0 := fld0 (.string x) (.int .i64 n) (.string y) (.int .i64 c) (.string z)
  have f1 := fld1 (.string x) (.int .i64 n) (.string y) (.int .i64 c) (.string z)
  have f2 := fld2 (.string x) (.int .i64 n) (.string y) (.int .i64 c) (.string z)
  have f3 := fld3 (.string x) (.int .i64 n) (.string y) (.int .i64 c) (.string z)
  clear hT
  go_enter Tryd.func77, Tryd.ntmps77
  go_wp2_with fail
  repeat (first
    | (with_reducible refine c1.calls0 HT.out ?_; intro wz hz; replace HT := Lib.hid (Kp.keep HT.out hz); replace HS := Lib.hid (HS.out.step hz); clear hz; try go_wp2_with fail))
  go_ret
  exact ⟨rfl, HS.out⟩
theorem letter_k (no : Int) (X : ByteArray) (hX : X = bs (rowOf no).2.2.1) : KMk Tabs 77 #[.int .i64 no] (.string X) := by
  subst hX
  exact letter_core no _ _ _ _ _ (by_k no)
/-- the number of the first line that p takes -/
def fndL (p : Row → Bool) : List Row → Nat → Int × Bool
  | [], _ => (0, false)
  | r :: l, k => if p r then ((k : Int) + 1, true) else fndL p l (k + 1)
end Kind
end Go.Proofs.YtgfdomdbjiflmaaDoor
