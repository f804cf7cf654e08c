/- Joined texts. -/
-- PACK: YtpakifiphdlkoaaDoorKind2 YtpakifiphdlkoaaDoorKind3 YtpakifiphdlkoaaDoorRefKind YtpakifiphdlkoaaDoorKindChk
import Derived.Test.YtpakifiphdlkoaaDoorKx1
import Derived.Test.YtpakifiphdlkoaaDoorCv23
import Derived.Test.YtpakifiphdlkoaaDoorCv13

/- Package kind: a number's line; what is found. -/
namespace Go.Proofs.YtpakifiphdlkoaaDoor
open Go.RowKit
namespace Kind
open Curve (KMkI)
def rowOf (no : Int) : Row := if 1 ≤ no ∧ no ≤ 11 then (rows[(no - 1).toNat]?).getD noneR else noneR
def rowV (r : Row) : Value := .agg #[.string (bs r.1), .int .i64 r.2.1, .string (bs r.2.2.1), .int .i64 r.2.2.2.1, .string (bs r.2.2.2.2)]
set_option maxRecDepth 100000 in
set_option maxHeartbeats 1000000 in
theorem by_1 (x y z : ByteArray) (n c : Int) (hr : rows[0]? = some (x.data.toList, n, y.data.toList, c, z.data.toList)) : KMk Tabs 69 #[.int .i64 1] (.agg #[.string x, .int .i64 n, .string y, .int .i64 c, .string z]) := by
  intro w hT
  have m0 : w.cell? ⟨0, 0, none⟩ = some (.string x) := by have := hT 0 _ hr 0 _ rfl; rw [← bs_list x]; exact this
  have m1 : w.cell? ⟨0, 1, none⟩ = some (.int .i64 n) := by have := hT 0 _ hr 1 _ rfl; exact this
  have m2 : w.cell? ⟨0, 2, none⟩ = some (.string y) := by have := hT 0 _ hr 2 _ rfl; rw [← bs_list y]; exact this
  have m3 : w.cell? ⟨0, 3, none⟩ = some (.int .i64 c) := by have := hT 0 _ hr 3 _ rfl; exact this
  have m4 : w.cell? ⟨0, 4, none⟩ = some (.string z) := by have := hT 0 _ hr 4 _ rfl; rw [← bs_list z]; exact this
  have hlt := hT.lt
  clear hT hr
  go_enter Tryd.func69, Tryd.ntmps69
  go_wp2_with fail
  exact bodyPost_ret (v := .agg #[.string x, .int .i64 n, .string y, .int .i64 c, .string z]) (by simp [results, Tryd.results69, go_sem]; try rfl) rfl ⟨rfl, (Below.refl _ w).alloc (Nat.le_refl _) _⟩
set_option maxRecDepth 100000 in
set_option maxHeartbeats 1000000 in
theorem by_2 (x y z : ByteArray) (n c : Int) (hr : rows[1]? = some (x.data.toList, n, y.data.toList, c, z.data.toList)) : KMk Tabs 69 #[.int .i64 2] (.agg #[.string x, .int .i64 n, .string y, .int .i64 c, .string z]) := by
  intro w hT
  have m0 : w.cell? ⟨0, 5, none⟩ = some (.string x) := by have := hT 1 _ hr 0 _ rfl; rw [← bs_list x]; exact this
  have m1 : w.cell? ⟨0, 6, none⟩ = some (.int .i64 n) := by have := hT 1 _ hr 1 _ rfl; exact this
  have m2 : w.cell? ⟨0, 7, none⟩ = some (.string y) := by have := hT 1 _ hr 2 _ rfl; rw [← bs_list y]; exact this
  have m3 : w.cell? ⟨0, 8, none⟩ = some (.int .i64 c) := by have := hT 1 _ hr 3 _ rfl; exact this
  have m4 : w.cell? ⟨0, 9, none⟩ = some (.string z) := by have := hT 1 _ hr 4 _ rfl; rw [← bs_list z]; exact this
  have hlt := hT.lt
  clear hT hr
  go_enter Tryd.func69, Tryd.ntmps69
  go_wp2_with fail
  exact bodyPost_ret (v := .agg #[.string x, .int .i64 n, .string y, .int .i64 c, .string z]) (by simp [results, Tryd.results69, go_sem]; try rfl) rfl ⟨rfl, (Below.refl _ w).alloc (Nat.le_refl _) _⟩
set_option maxRecDepth 100000 in
set_option maxHeartbeats 1000000 in
theorem by_3 (x y z : ByteArray) (n c : Int) (hr : rows[2]? = some (x.data.toList, n, y.data.toList, c, z.data.toList)) : KMk Tabs 69 #[.int .i64 3] (.agg #[.string x, .int .i64 n, .string y, .int .i64 c, .string z]) := by
  intro w hT
  have m0 : w.cell? ⟨0, 10, none⟩ = some (.string x) := by have := hT 2 _ hr 0 _ rfl; rw [← bs_list x]; exact this
  have m1 : w.cell? ⟨0, 11, none⟩ = some (.int .i64 n) := by have := hT 2 _ hr 1 _ rfl; exact this
  have m2 : w.cell? ⟨0, 12, none⟩ = some (.string y) := by have := hT 2 _ hr 2 _ rfl; rw [← bs_list y]; exact this
  have m3 : w.cell? ⟨0, 13, none⟩ = some (.int .i64 c) := by have := hT 2 _ hr 3 _ rfl; exact this
  have m4 : w.cell? ⟨0, 14, none⟩ = some (.string z) := by have := hT 2 _ hr 4 _ rfl; rw [← bs_list z]; exact this
  have hlt := hT.lt
  clear hT hr
  go_enter Tryd.func69, Tryd.ntmps69
  go_wp2_with fail
  exact bodyPost_ret (v := .agg #[.string x, .int .i64 n, .string y, .int .i64 c, .string z]) (by simp [results, Tryd.results69, go_sem]; try rfl) rfl ⟨rfl, (Below.refl _ w).alloc (Nat.le_refl _) _⟩
set_option maxRecDepth 100000 in
set_option maxHeartbeats 1000000 in
theorem by_4 (x y z : ByteArray) (n c : Int) (hr : rows[3]? = some (x.data.toList, n, y.data.toList, c, z.data.toList)) : KMk Tabs 69 #[.int .i64 4] (.agg #[.string x, .int .i64 n, .string y, .int .i64 c, .string z]) := by
  intro w hT
  have m0 : w.cell? ⟨0, 15, none⟩ = some (.string x) := by have := hT 3 _ hr 0 _ rfl; rw [← bs_list x]; exact this
  have m1 : w.cell? ⟨0, 16, none⟩ = some (.int .i64 n) := by have := hT 3 _ hr 1 _ rfl; exact this
  have m2 : w.cell? ⟨0, 17, none⟩ = some (.string y) := by have := hT 3 _ hr 2 _ rfl; rw [← bs_list y]; exact this
  have m3 : w.cell? ⟨0, 18, none⟩ = some (.int .i64 c) := by have := hT 3 _ hr 3 _ rfl; exact this
  have m4 : w.cell? ⟨0, 19, none⟩ = some (.string z) := by have := hT 3 _ hr 4 _ rfl; rw [← bs_list z]; exact this
  have hlt := hT.lt
  clear hT hr
  go_enter Tryd.func69, Tryd.ntmps69
  go_wp2_with fail
  exact bodyPost_ret (v := .agg #[.string x, .int .i64 n, .string y, .int .i64 c, .string z]) (by simp [results, Tryd.results69, go_sem]; try rfl) rfl ⟨rfl, (Below.refl _ w).alloc (Nat.le_refl _) _⟩
set_option maxRecDepth 100000 in
set_option maxHeartbeats 1000000 in
theorem by_5 (x y z : ByteArray) (n c : Int) (hr : rows[4]? = some (x.data.toList, n, y.data.toList, c, z.data.toList)) : KMk Tabs 69 #[.int .i64 5] (.agg #[.string x, .int .i64 n, .string y, .int .i64 c, .string z]) := by
  intro w hT
  have m0 : w.cell? ⟨0, 20, none⟩ = some (.string x) := by have := hT 4 _ hr 0 _ rfl; rw [← bs_list x]; exact this
  have m1 : w.cell? ⟨0, 21, none⟩ = some (.int .i64 n) := by have := hT 4 _ hr 1 _ rfl; exact this
  have m2 : w.cell? ⟨0, 22, none⟩ = some (.string y) := by have := hT 4 _ hr 2 _ rfl; rw [← bs_list y]; exact this
  have m3 : w.cell? ⟨0, 23, none⟩ = some (.int .i64 c) := by have := hT 4 _ hr 3 _ rfl; exact this
  have m4 : w.cell? ⟨0, 24, none⟩ = some (.string z) := by have := hT 4 _ hr 4 _ rfl; rw [← bs_list z]; exact this
  have hlt := hT.lt
  clear hT hr
  go_enter Tryd.func69, Tryd.ntmps69
  go_wp2_with fail
  exact bodyPost_ret (v := .agg #[.string x, .int .i64 n, .string y, .int .i64 c, .string z]) (by simp [results, Tryd.results69, go_sem]; try rfl) rfl ⟨rfl, (Below.refl _ w).alloc (Nat.le_refl _) _⟩
set_option maxRecDepth 100000 in
set_option maxHeartbeats 1000000 in
theorem by_6 (x y z : ByteArray) (n c : Int) (hr : rows[5]? = some (x.data.toList, n, y.data.toList, c, z.data.toList)) : KMk Tabs 69 #[.int .i64 6] (.agg #[.string x, .int .i64 n, .string y, .int .i64 c, .string z]) := by
  intro w hT
  have m0 : w.cell? ⟨0, 25, none⟩ = some (.string x) := by have := hT 5 _ hr 0 _ rfl; rw [← bs_list x]; exact this
  have m1 : w.cell? ⟨0, 26, none⟩ = some (.int .i64 n) := by have := hT 5 _ hr 1 _ rfl; exact this
  have m2 : w.cell? ⟨0, 27, none⟩ = some (.string y) := by have := hT 5 _ hr 2 _ rfl; rw [← bs_list y]; exact this
  have m3 : w.cell? ⟨0, 28, none⟩ = some (.int .i64 c) := by have := hT 5 _ hr 3 _ rfl; exact this
  have m4 : w.cell? ⟨0, 29, none⟩ = some (.string z) := by have := hT 5 _ hr 4 _ rfl; rw [← bs_list z]; exact this
  have hlt := hT.lt
  clear hT hr
  go_enter Tryd.func69, Tryd.ntmps69
  go_wp2_with fail
  exact bodyPost_ret (v := .agg #[.string x, .int .i64 n, .string y, .int .i64 c, .string z]) (by simp [results, Tryd.results69, go_sem]; try rfl) rfl ⟨rfl, (Below.refl _ w).alloc (Nat.le_refl _) _⟩
set_option maxRecDepth 100000 in
set_option maxHeartbeats 1000000 in
theorem by_7 (x y z : ByteArray) (n c : Int) (hr : rows[6]? = some (x.data.toList, n, y.data.toList, c, z.data.toList)) : KMk Tabs 69 #[.int .i64 7] (.agg #[.string x, .int .i64 n, .string y, .int .i64 c, .string z]) := by
  intro w hT
  have m0 : w.cell? ⟨0, 30, none⟩ = some (.string x) := by have := hT 6 _ hr 0 _ rfl; rw [← bs_list x]; exact this
  have m1 : w.cell? ⟨0, 31, none⟩ = some (.int .i64 n) := by have := hT 6 _ hr 1 _ rfl; exact this
  have m2 : w.cell? ⟨0, 32, none⟩ = some (.string y) := by have := hT 6 _ hr 2 _ rfl; rw [← bs_list y]; exact this
  have m3 : w.cell? ⟨0, 33, none⟩ = some (.int .i64 c) := by have := hT 6 _ hr 3 _ rfl; exact this
  have m4 : w.cell? ⟨0, 34, none⟩ = some (.string z) := by have := hT 6 _ hr 4 _ rfl; rw [← bs_list z]; exact this
  have hlt := hT.lt
  clear hT hr
  go_enter Tryd.func69, Tryd.ntmps69
  go_wp2_with fail
  exact bodyPost_ret (v := .agg #[.string x, .int .i64 n, .string y, .int .i64 c, .string z]) (by simp [results, Tryd.results69, go_sem]; try rfl) rfl ⟨rfl, (Below.refl _ w).alloc (Nat.le_refl _) _⟩
set_option maxRecDepth 100000 in
set_option maxHeartbeats 1000000 in
theorem by_8 (x y z : ByteArray) (n c : Int) (hr : rows[7]? = some (x.data.toList, n, y.data.toList, c, z.data.toList)) : KMk Tabs 69 #[.int .i64 8] (.agg #[.string x, .int .i64 n, .string y, .int .i64 c, .string z]) := by
  intro w hT
  have m0 : w.cell? ⟨0, 35, none⟩ = some (.string x) := by have := hT 7 _ hr 0 _ rfl; rw [← bs_list x]; exact this
  have m1 : w.cell? ⟨0, 36, none⟩ = some (.int .i64 n) := by have := hT 7 _ hr 1 _ rfl; exact this
  have m2 : w.cell? ⟨0, 37, none⟩ = some (.string y) := by have := hT 7 _ hr 2 _ rfl; rw [← bs_list y]; exact this
  have m3 : w.cell? ⟨0, 38, none⟩ = some (.int .i64 c) := by have := hT 7 _ hr 3 _ rfl; exact this
  have m4 : w.cell? ⟨0, 39, none⟩ = some (.string z) := by have := hT 7 _ hr 4 _ rfl; rw [← bs_list z]; exact this
  have hlt := hT.lt
  clear hT hr
  go_enter Tryd.func69, Tryd.ntmps69
  go_wp2_with fail
  exact bodyPost_ret (v := .agg #[.string x, .int .i64 n, .string y, .int .i64 c, .string z]) (by simp [results, Tryd.results69, go_sem]; try rfl) rfl ⟨rfl, (Below.refl _ w).alloc (Nat.le_refl _) _⟩
set_option maxRecDepth 100000 in
set_option maxHeartbeats 1000000 in
theorem by_9 (x y z : ByteArray) (n c : Int) (hr : rows[8]? = some (x.data.toList, n, y.data.toList, c, z.data.toList)) : KMk Tabs 69 #[.int .i64 9] (.agg #[.string x, .int .i64 n, .string y, .int .i64 c, .string z]) := by
  intro w hT
  have m0 : w.cell? ⟨0, 40, none⟩ = some (.string x) := by have := hT 8 _ hr 0 _ rfl; rw [← bs_list x]; exact this
  have m1 : w.cell? ⟨0, 41, none⟩ = some (.int .i64 n) := by have := hT 8 _ hr 1 _ rfl; exact this
  have m2 : w.cell? ⟨0, 42, none⟩ = some (.string y) := by have := hT 8 _ hr 2 _ rfl; rw [← bs_list y]; exact this
  have m3 : w.cell? ⟨0, 43, none⟩ = some (.int .i64 c) := by have := hT 8 _ hr 3 _ rfl; exact this
  have m4 : w.cell? ⟨0, 44, none⟩ = some (.string z) := by have := hT 8 _ hr 4 _ rfl; rw [← bs_list z]; exact this
  have hlt := hT.lt
  clear hT hr
  go_enter Tryd.func69, Tryd.ntmps69
  go_wp2_with fail
  exact bodyPost_ret (v := .agg #[.string x, .int .i64 n, .string y, .int .i64 c, .string z]) (by simp [results, Tryd.results69, go_sem]; try rfl) rfl ⟨rfl, (Below.refl _ w).alloc (Nat.le_refl _) _⟩
set_option maxRecDepth 100000 in
set_option maxHeartbeats 1000000 in
theorem by_10 (x y z : ByteArray) (n c : Int) (hr : rows[9]? = some (x.data.toList, n, y.data.toList, c, z.data.toList)) : KMk Tabs 69 #[.int .i64 10] (.agg #[.string x, .int .i64 n, .string y, .int .i64 c, .string z]) := by
  intro w hT
  have m0 : w.cell? ⟨0, 45, none⟩ = some (.string x) := by have := hT 9 _ hr 0 _ rfl; rw [← bs_list x]; exact this
  have m1 : w.cell? ⟨0, 46, none⟩ = some (.int .i64 n) := by have := hT 9 _ hr 1 _ rfl; exact this
  have m2 : w.cell? ⟨0, 47, none⟩ = some (.string y) := by have := hT 9 _ hr 2 _ rfl; rw [← bs_list y]; exact this
  have m3 : w.cell? ⟨0, 48, none⟩ = some (.int .i64 c) := by have := hT 9 _ hr 3 _ rfl; exact this
  have m4 : w.cell? ⟨0, 49, none⟩ = some (.string z) := by have := hT 9 _ hr 4 _ rfl; rw [← bs_list z]; exact this
  have hlt := hT.lt
  clear hT hr
  go_enter Tryd.func69, Tryd.ntmps69
  go_wp2_with fail
  exact bodyPost_ret (v := .agg #[.string x, .int .i64 n, .string y, .int .i64 c, .string z]) (by simp [results, Tryd.results69, go_sem]; try rfl) rfl ⟨rfl, (Below.refl _ w).alloc (Nat.le_refl _) _⟩
set_option maxRecDepth 100000 in
set_option maxHeartbeats 1000000 in
theorem by_11 (x y z : ByteArray) (n c : Int) (hr : rows[10]? = some (x.data.toList, n, y.data.toList, c, z.data.toList)) : KMk Tabs 69 #[.int .i64 11] (.agg #[.string x, .int .i64 n, .string y, .int .i64 c, .string z]) := by
  intro w hT
  have m0 : w.cell? ⟨0, 50, none⟩ = some (.string x) := by have := hT 10 _ hr 0 _ rfl; rw [← bs_list x]; exact this
  have m1 : w.cell? ⟨0, 51, none⟩ = some (.int .i64 n) := by have := hT 10 _ hr 1 _ rfl; exact this
  have m2 : w.cell? ⟨0, 52, none⟩ = some (.string y) := by have := hT 10 _ hr 2 _ rfl; rw [← bs_list y]; exact this
  have m3 : w.cell? ⟨0, 53, none⟩ = some (.int .i64 c) := by have := hT 10 _ hr 3 _ rfl; exact this
  have m4 : w.cell? ⟨0, 54, none⟩ = some (.string z) := by have := hT 10 _ hr 4 _ rfl; rw [← bs_list z]; exact this
  have hlt := hT.lt
  clear hT hr
  go_enter Tryd.func69, Tryd.ntmps69
  go_wp2_with fail
  exact bodyPost_ret (v := .agg #[.string x, .int .i64 n, .string y, .int .i64 c, .string z]) (by simp [results, Tryd.results69, go_sem]; try rfl) rfl ⟨rfl, (Below.refl _ w).alloc (Nat.le_refl _) _⟩
set_option maxRecDepth 100000 in
theorem by_out (no : Int) (h : no < 1 ∨ 11 < no) : Mak 69 #[.int .i64 no] (.agg #[.string ⟨#[]⟩, .int .i64 0, .string ⟨#[]⟩, .int .i64 0, .string ⟨#[]⟩]) := by
  intro w
  by_cases h1 : no < 1
  · clear h
    go_enter Tryd.func69, Tryd.ntmps69
    go_wp2_with fail
    exact bodyPost_ret (v := .agg #[.string ⟨#[]⟩, .int .i64 0, .string ⟨#[]⟩, .int .i64 0, .string ⟨#[]⟩]) (by simp [results, Tryd.results69, go_sem]; try rfl) rfl ⟨rfl, (Below.refl _ w).alloc (Nat.le_refl _) _⟩
  · have h2 : 11 < no := by omega
    clear h
    go_enter Tryd.func69, Tryd.ntmps69
    go_wp2_with fail
    exact bodyPost_ret (v := .agg #[.string ⟨#[]⟩, .int .i64 0, .string ⟨#[]⟩, .int .i64 0, .string ⟨#[]⟩]) (by simp [results, Tryd.results69, go_sem]; try rfl) rfl ⟨rfl, (Below.refl _ w).alloc (Nat.le_refl _) _⟩
theorem row_bs (r : Row) : r = ((bs r.1).data.toList, r.2.1, (bs r.2.2.1).data.toList, r.2.2.2.1, (bs r.2.2.2.2).data.toList) := by rw [list_bs, list_bs, list_bs]
theorem row_cases (no : Int) : (no < 1 ∨ 11 < no) ∨ no = 1 ∨ no = 2 ∨ no = 3 ∨ no = 4 ∨ no = 5 ∨ no = 6 ∨ no = 7 ∨ no = 8 ∨ no = 9 ∨ no = 10 ∨ no = 11 := by omega
theorem rowOf_out (no : Int) (h : no < 1 ∨ 11 < no) : rowOf no = noneR := if_neg (by omega)
theorem by_k (no : Int) : KMk Tabs 69 #[.int .i64 no] (rowV (rowOf no)) := by
  rcases row_cases no with h | rfl | rfl | rfl | rfl | rfl | rfl | rfl | rfl | rfl | rfl | rfl
  · rw [rowOf_out no h]; exact (by_out no h).k
  · exact by_1 _ _ _ _ _ (congrArg some (row_bs _))
  · exact by_2 _ _ _ _ _ (congrArg some (row_bs _))
  · exact by_3 _ _ _ _ _ (congrArg some (row_bs _))
  · exact by_4 _ _ _ _ _ (congrArg some (row_bs _))
  · exact by_5 _ _ _ _ _ (congrArg some (row_bs _))
  · exact by_6 _ _ _ _ _ (congrArg some (row_bs _))
  · exact by_7 _ _ _ _ _ (congrArg some (row_bs _))
  · exact by_8 _ _ _ _ _ (congrArg some (row_bs _))
  · exact by_9 _ _ _ _ _ (congrArg some (row_bs _))
  · exact by_10 _ _ _ _ _ (congrArg some (row_bs _))
  · exact by_11 _ _ _ _ _ (congrArg some (row_bs _))
set_option maxRecDepth 100000 in
theorem fld0 (x y z u v : Value) (w : World) : (Instr.field 59 (.agg #[x, y, z, u, v]) 0).run Tryd.prog w = .ok x w := by kernel_rfl
set_option maxRecDepth 100000 in
theorem fld1 (x y z u v : Value) (w : World) : (Instr.field 59 (.agg #[x, y, z, u, v]) 1).run Tryd.prog w = .ok y w := by kernel_rfl
set_option maxRecDepth 100000 in
theorem fld2 (x y z u v : Value) (w : World) : (Instr.field 59 (.agg #[x, y, z, u, v]) 2).run Tryd.prog w = .ok z w := by kernel_rfl
set_option maxRecDepth 100000 in
theorem fld3 (x y z u v : Value) (w : World) : (Instr.field 59 (.agg #[x, y, z, u, v]) 3).run Tryd.prog w = .ok u w := by kernel_rfl
set_option maxRecDepth 100000 in
theorem fld4 (x y z u v : Value) (w : World) : (Instr.field 59 (.agg #[x, y, z, u, v]) 4).run Tryd.prog w = .ok v w := by kernel_rfl
set_option maxRecDepth 100000 in
theorem name_core (no : Int) (x y z : ByteArray) (n c : Int) (c1 : KMk Tabs 69 #[.int .i64 no] (.agg #[.string x, .int .i64 n, .string y, .int .i64 c, .string z])) : KMk Tabs 33 #[.int .i64 no] (.string x) := by
  intro w hT
  have HS := Lib.hid (Since.refl w)
  have HT := Lib.hid hT
  have f0 := fld0 (.string x) (.int .i64 n) (.string y) (.int .i64 c) (.string z)
  have f1 := fld1 (.string x) (.int .i64 n) (.string y) (.int .i64 c) (.string z)
  have f2 := fld2 (.string x) (.int .i64 n) (.string y) (.int .i64 c) (.string z)
  have f3 := fld3 (.string x) (.int .i64 n) (.string y) (.int .i64 c) (.string z)
  clear hT
  go_enter Tryd.func33, Tryd.ntmps33
  go_wp2_with fail
  repeat (first
    | (with_reducible refine c1.calls0 HT.out ?_; intro wz hz; replace HT := Lib.hid (Kp.keep HT.out hz); replace HS := Lib.hid (HS.out.step hz); clear hz; try go_wp2_with fail))
  go_ret
  exact ⟨rfl, HS.out⟩
set_option maxRecDepth 100000 in
theorem size_core (no : Int) (x y z : ByteArray) (n c : Int) (c1 : KMk Tabs 69 #[.int .i64 no] (.agg #[.string x, .int .i64 n, .string y, .int .i64 c, .string z])) : KMk Tabs 35 #[.int .i64 no] (.int .i64 n) := by
  intro w hT
  have HS := Lib.hid (Since.refl w)
  have HT := Lib.hid hT
  have f0 := fld0 (.string x) (.int .i64 n) (.string y) (.int .i64 c) (.string z)
  have f1 := fld1 (.string x) (.int .i64 n) (.string y) (.int .i64 c) (.string z)
  have f2 := fld2 (.string x) (.int .i64 n) (.string y) (.int .i64 c) (.string z)
  have f3 := fld3 (.string x) (.int .i64 n) (.string y) (.int .i64 c) (.string z)
  clear hT
  go_enter Tryd.func35, Tryd.ntmps35
  go_wp2_with fail
  repeat (first
    | (with_reducible refine c1.calls0 HT.out ?_; intro wz hz; replace HT := Lib.hid (Kp.keep HT.out hz); replace HS := Lib.hid (HS.out.step hz); clear hz; try go_wp2_with fail))
  go_ret
  exact ⟨rfl, HS.out⟩
set_option maxRecDepth 100000 in
theorem letter_core (no : Int) (x y z : ByteArray) (n c : Int) (c1 : KMk Tabs 69 #[.int .i64 no] (.agg #[.string x, .int .i64 n, .string y, .int .i64 c, .string z])) : KMk Tabs 37 #[.int .i64 no] (.string y) := by
  intro w hT
  have HS := Lib.hid (Since.refl w)
  have HT := Lib.hid hT
  have f0 := fld0 (.string x) (.int .i64 n) (.string y) (.int .i64 c) (.string z)
  have f1 := fld1 (.string x) (.int .i64 n) (.string y) (.int .i64 c) (.string z)
  have f2 := fld2 (.string x) (.int .i64 n) (.string y) (.int .i64 c) (.string z)
  have f3 := fld3 (.string x) (.int .i64 n) (.string y) (.int .i64 c) (.string z)
  clear hT
  go_enter Tryd.func37, Tryd.ntmps37
  go_wp2_with fail
  repeat (first
    | (with_reducible refine c1.calls0 HT.out ?_; intro wz hz; replace HT := Lib.hid (Kp.keep HT.out hz); replace HS := Lib.hid (HS.out.step hz); clear hz; try go_wp2_with fail))
  go_ret
  exact ⟨rfl, HS.out⟩
set_option maxRecDepth 100000 in
theorem curve_core (no : Int) (x y z : ByteArray) (n c : Int) (c1 : KMk Tabs 69 #[.int .i64 no] (.agg #[.string x, .int .i64 n, .string y, .int .i64 c, .string z])) : KMk Tabs 39 #[.int .i64 no] (.int .i64 c) := by
  intro w hT
  have HS := Lib.hid (Since.refl w)
  have HT := Lib.hid hT
  have f0 := fld0 (.string x) (.int .i64 n) (.string y) (.int .i64 c) (.string z)
  have f1 := fld1 (.string x) (.int .i64 n) (.string y) (.int .i64 c) (.string z)
  have f2 := fld2 (.string x) (.int .i64 n) (.string y) (.int .i64 c) (.string z)
  have f3 := fld3 (.string x) (.int .i64 n) (.string y) (.int .i64 c) (.string z)
  clear hT
  go_enter Tryd.func39, Tryd.ntmps39
  go_wp2_with fail
  repeat (first
    | (with_reducible refine c1.calls0 HT.out ?_; intro wz hz; replace HT := Lib.hid (Kp.keep HT.out hz); replace HS := Lib.hid (HS.out.step hz); clear hz; try go_wp2_with fail))
  go_ret
  exact ⟨rfl, HS.out⟩
theorem name_k (no : Int) (X : ByteArray) (hX : X = bs (rowOf no).1) : KMk Tabs 33 #[.int .i64 no] (.string X) := by
  subst hX
  exact name_core no _ _ _ _ _ (by_k no)
theorem size_k (no X : Int) (hX : X = (rowOf no).2.1) : KMk Tabs 35 #[.int .i64 no] (.int .i64 X) := by
  subst hX
  exact size_core no _ _ _ _ _ (by_k no)
theorem letter_k (no : Int) (X : ByteArray) (hX : X = bs (rowOf no).2.2.1) : KMk Tabs 37 #[.int .i64 no] (.string X) := by
  subst hX
  exact letter_core no _ _ _ _ _ (by_k no)
theorem curve_k (no X : Int) (hX : X = (rowOf no).2.2.2.1) : KMk Tabs 39 #[.int .i64 no] (.int .i64 X) := by
  subst hX
  exact curve_core no _ _ _ _ _ (by_k no)
set_option maxRecDepth 100000 in
theorem arcs_core (no : Int) (x y z : ByteArray) (n c : Int) (q : Bool) (xs : List Int) (c1 : KMk Tabs 69 #[.int .i64 no] (.agg #[.string x, .int .i64 n, .string y, .int .i64 c, .string z])) (c2 : MkI 60 #[.string z] xs q) : KMkI Tabs 41 #[.int .i64 no] xs := by
  intro w hT
  have HS := Lib.hid (Since.refl w)
  have HT := Lib.hid hT
  have f0 := fld4 (.string x) (.int .i64 n) (.string y) (.int .i64 c) (.string z)
  clear hT
  go_enter Tryd.func41, Tryd.ntmps41
  go_wp2_with fail
  repeat (first
    | (with_reducible refine c1.calls0 HT.out ?_; intro wz hz; replace HT := Lib.hid (Kp.keep HT.out hz); replace HS := Lib.hid (HS.out.step hz); clear hz; try go_wp2_with fail))
  refine (c2.calls0) ?_
  intro v1 w1 hv1 h1
  have HV1 := Lib.hid hv1
  clear hv1
  replace HS := Lib.hid (HS.out.step (by first | exact h1 | exact (Since.alloc (Since.refl _) _).step h1 | exact (Since.alloc (Since.alloc (Since.refl _) _) _).step h1 | exact (Since.drew (Since.refl _)).step h1 | exact (Since.alloc (Since.alloc (Since.alloc (Since.refl _) _) _) _).step h1))
  clear h1
  go_wp2_with fail
  go_ret
  exact ⟨_, rfl, HV1.out, HS.out⟩
def arcsL (r : Row) : List Int := Oid.parL r.2.2.2.2
theorem row_short (no : Int) : (rowOf no).2.2.2.2.length ≤ 200 := by
  rcases row_cases no with h | rfl | rfl | rfl | rfl | rfl | rfl | rfl | rfl | rfl | rfl | rfl
  · rw [rowOf_out no h]; decide +kernel
  · decide +kernel
  · decide +kernel
  · decide +kernel
  · decide +kernel
  · decide +kernel
  · decide +kernel
  · decide +kernel
  · decide +kernel
  · decide +kernel
  · decide +kernel
  · decide +kernel
theorem arcs_k (no : Int) (xs : List Int) (hX : xs = arcsL (rowOf no)) : KMkI Tabs 41 #[.int .i64 no] xs := by
  subst hX
  have h1 := row_short no
  have hz : (bs (rowOf no).2.2.2.2).size = (rowOf no).2.2.2.2.length := by
    show (bs (rowOf no).2.2.2.2).data.toList.length = _
    rw [list_bs]
  have c2 := Oid.parse_mk (bs (rowOf no).2.2.2.2) (by omega) _ _ rfl rfl
  rw [list_bs] at c2
  exact arcs_core no _ _ _ _ _ _ _ (by_k no) c2
/-- the number of the first line that p takes -/
def fndL (p : Row → Bool) : List Row → Nat → Int × Bool
  | [], _ => (0, false)
  | r :: l, k => if p r then ((k : Int) + 1, true) else fndL p l (k + 1)
set_option maxRecDepth 100000 in
set_option maxHeartbeats 4000000 in
theorem find_by (K : World → Prop) [Kp K] (hKT : ∀ w, K w → Tabs w) (p : Row → Bool) (c1 c2 c3 : Value) (hp : ∀ r, KMk K 65 #[rowV r, c1, c2, c3] (.bool (p r))) (n : Int) (q : Bool) (hn : fndL p rows 0 = (n, q)) : KMk K 64 #[.func (.func 65) #[] #[c1, c2, c3]] (.tuple #[.int .i64 n, .bool q]) := by
  intro w hT
  have hl := load_all (hKT w hT)
  obtain ⟨D, hD⟩ : ∃ D, D = cells := ⟨_, rfl⟩
  rw [← hD] at hl
  have HX : Hid (∀ (i : Nat) r, rows[i]? = some r → ∀ W, (Instr.index 61 (.agg D) (.int .i64 (i : Int))).run Tryd.prog W = .ok (.agg #[.string (bs r.1), .int .i64 r.2.1, .string (bs r.2.2.1), .int .i64 r.2.2.2.1, .string (bs r.2.2.2.2)]) W) := Lib.hid (fun i r h W => by rw [hD]; exact index_at i r h W)
  have Hl := Lib.hid hl
  have HP := Lib.hid hp
  have HT := Lib.hid hT
  have HN := Lib.hid hn
  clear hT hD hl hp hn hKT
  go_enter Tryd.func64, Tryd.ntmps64
  go_wp2_with ((with_reducible refine wpList_load_run _ _ _ _ (.agg D) ?_ Hl.out ?_) <;> try rfl)
  go_loopw [7] (fun i wr => ∃ k : Nat, k ≤ 11 ∧ i = .int .i64 (k : Int) ∧ Hid (fndL p (rows.drop k) k = (n, q)) ∧ Hid (K wr) ∧ Hid (Since w wr)) (fun i _ => 11 - (intOf i).toNat)
  case atStart => exact ⟨0, by omega, rfl, HN, HT, Lib.hid (Since.refl _)⟩
  case round =>
    clear HN HT
    obtain ⟨k, hk, rfl, HN, HT, HS⟩ := hrel
    by_cases hlt2 : k < 11
    · obtain ⟨r, hr⟩ : ∃ r, rows[k]? = some r := ⟨rows[k]'hlt2, List.getElem?_eq_getElem _⟩
      have hix := HX.out k r hr
      have cC := HP.out r
      have hd := HN.out
      rw [List.drop_eq_getElem_cons (show k < rows.length from hlt2), (List.getElem?_eq_some_iff.1 hr).2] at hd
      unfold fndL at hd
      unfold rowV at cC
      obtain ⟨b, hb⟩ : ∃ b, b = p r := ⟨_, rfl⟩
      rw [← hb] at hd cC
      generalize bs r.1 = g0 at hix cC
      generalize r.2.1 = g1 at hix cC
      generalize bs r.2.2.1 = g2 at hix cC
      generalize r.2.2.2.1 = g3 at hix cC
      generalize bs r.2.2.2.2 = g4 at hix cC
      have HT2 := Lib.hid (Kp.keep HT.out ((Since.alloc (Since.refl wr) (.cells #[.string g0, .int .i64 g1, .string g2, .int .i64 g3, .string g4] 59))))
      have HS2 := Lib.hid (HS.out.alloc (.cells #[.string g0, .int .i64 g1, .string g2, .int .i64 g3, .string g4] 59))
      clear hb hr
      cases b
      · rw [if_neg (by decide)] at hd
        have HN2 := Lib.hid hd
        clear hd HN HT HS
        go_wp2_with fail
        refine cC.calls0 HT2.out ?_
        intro wy hy
        have HT3 := Lib.hid (Kp.keep HT2.out hy)
        have HS3 := Lib.hid (HS2.out.step hy)
        clear hy
        go_wp2_with fail
        go_roundw
        case rel => exact ⟨k + 1, by omega, by go_num, HN2, HT3, HS3⟩
        case measure => simp [intOf]; omega
      · rw [if_pos rfl] at hd
        cases hd
        clear HN HT HS
        go_wp2_with fail
        refine cC.calls0 HT2.out ?_
        intro wy hy
        have HS3 := Lib.hid (HS2.out.step hy)
        clear hy
        go_wp2_with fail
        go_ret2
        exact ⟨rfl, HS3.out⟩
    · obtain rfl : k = 11 := by omega
      have hd := HN.out
      cases hd
      go_wp2_with fail
      go_ret2
      exact ⟨rfl, HS.out⟩
set_option maxRecDepth 100000 in
set_option maxHeartbeats 4000000 in
theorem find_of (K : World → Prop) [Kp K] (hKT : ∀ w, K w → Tabs w) (p : Row → Bool) (c1 c2 : Value) (hp : ∀ r, KMk K 68 #[rowV r, c1, c2] (.bool (p r))) (n : Int) (q : Bool) (hn : fndL p rows 0 = (n, q)) : KMk K 64 #[.func (.func 68) #[] #[c1, c2]] (.tuple #[.int .i64 n, .bool q]) := by
  intro w hT
  have hl := load_all (hKT w hT)
  obtain ⟨D, hD⟩ : ∃ D, D = cells := ⟨_, rfl⟩
  rw [← hD] at hl
  have HX : Hid (∀ (i : Nat) r, rows[i]? = some r → ∀ W, (Instr.index 61 (.agg D) (.int .i64 (i : Int))).run Tryd.prog W = .ok (.agg #[.string (bs r.1), .int .i64 r.2.1, .string (bs r.2.2.1), .int .i64 r.2.2.2.1, .string (bs r.2.2.2.2)]) W) := Lib.hid (fun i r h W => by rw [hD]; exact index_at i r h W)
  have Hl := Lib.hid hl
  have HP := Lib.hid hp
  have HT := Lib.hid hT
  have HN := Lib.hid hn
  clear hT hD hl hp hn hKT
  go_enter Tryd.func64, Tryd.ntmps64
  go_wp2_with ((with_reducible refine wpList_load_run _ _ _ _ (.agg D) ?_ Hl.out ?_) <;> try rfl)
  go_loopw [7] (fun i wr => ∃ k : Nat, k ≤ 11 ∧ i = .int .i64 (k : Int) ∧ Hid (fndL p (rows.drop k) k = (n, q)) ∧ Hid (K wr) ∧ Hid (Since w wr)) (fun i _ => 11 - (intOf i).toNat)
  case atStart => exact ⟨0, by omega, rfl, HN, HT, Lib.hid (Since.refl _)⟩
  case round =>
    clear HN HT
    obtain ⟨k, hk, rfl, HN, HT, HS⟩ := hrel
    by_cases hlt2 : k < 11
    · obtain ⟨r, hr⟩ : ∃ r, rows[k]? = some r := ⟨rows[k]'hlt2, List.getElem?_eq_getElem _⟩
      have hix := HX.out k r hr
      have cC := HP.out r
      have hd := HN.out
      rw [List.drop_eq_getElem_cons (show k < rows.length from hlt2), (List.getElem?_eq_some_iff.1 hr).2] at hd
      unfold fndL at hd
      unfold rowV at cC
      obtain ⟨b, hb⟩ : ∃ b, b = p r := ⟨_, rfl⟩
      rw [← hb] at hd cC
      generalize bs r.1 = g0 at hix cC
      generalize r.2.1 = g1 at hix cC
      generalize bs r.2.2.1 = g2 at hix cC
      generalize r.2.2.2.1 = g3 at hix cC
      generalize bs r.2.2.2.2 = g4 at hix cC
      have HT2 := Lib.hid (Kp.keep HT.out ((Since.alloc (Since.refl wr) (.cells #[.string g0, .int .i64 g1, .string g2, .int .i64 g3, .string g4] 59))))
      have HS2 := Lib.hid (HS.out.alloc (.cells #[.string g0, .int .i64 g1, .string g2, .int .i64 g3, .string g4] 59))
      clear hb hr
      cases b
      · rw [if_neg (by decide)] at hd
        have HN2 := Lib.hid hd
        clear hd HN HT HS
        go_wp2_with fail
        refine cC.calls0 HT2.out ?_
        intro wy hy
        have HT3 := Lib.hid (Kp.keep HT2.out hy)
        have HS3 := Lib.hid (HS2.out.step hy)
        clear hy
        go_wp2_with fail
        go_roundw
        case rel => exact ⟨k + 1, by omega, by go_num, HN2, HT3, HS3⟩
        case measure => simp [intOf]; omega
      · rw [if_pos rfl] at hd
        cases hd
        clear HN HT HS
        go_wp2_with fail
        refine cC.calls0 HT2.out ?_
        intro wy hy
        have HS3 := Lib.hid (HS2.out.step hy)
        clear hy
        go_wp2_with fail
        go_ret2
        exact ⟨rfl, HS3.out⟩
    · obtain rfl : k = 11 := by omega
      have hd := HN.out
      cases hd
      go_wp2_with fail
      go_ret2
      exact ⟨rfl, HS.out⟩
end Kind
end Go.Proofs.YtpakifiphdlkoaaDoor

/- Package kind: By, Of and Check; the reference. -/
namespace Go.Proofs.YtpakifiphdlkoaaDoor
open Go.RowKit
namespace Kind
open Curve (KMkI KS KI)
theorem Tabs.since {w w' : World} (h : Tabs w) (hs : Since w w') : Tabs w' := Kp.keep h hs
def KBy (b b1 b2 : Nat) (s : ByteArray) (cu si : Int) : World → Prop := fun w => Tabs w ∧ KS b s w ∧ KI b1 cu w ∧ KI b2 si w
instance (b b1 b2 : Nat) (s : ByteArray) (cu si : Int) : Kp (KBy b b1 b2 s cu si) := ⟨fun h hb => ⟨Kp.keep h.1 hb, Kp.keep h.2.1 hb, Kp.keep h.2.2.1 hb, Kp.keep h.2.2.2 hb⟩⟩
set_option maxRecDepth 100000 in
theorem by1_mk (b b1 b2 : Nat) (s : ByteArray) (cu si : Int) (x y z : ByteArray) (n c : Int) (u1 u2 u3 : Bool) (h1 : (z.toList == s.toList) = u1) (h2 : (c == cu) = u2) (h3 : (n == si) = u3) : KMk (KBy b b1 b2 s cu si) 65 #[.agg #[.string x, .int .i64 n, .string y, .int .i64 c, .string z], .pointer (some ⟨b, 0, none⟩), .pointer (some ⟨b1, 0, none⟩), .pointer (some ⟨b2, 0, none⟩)] (.bool (u1 && u2 && u3)) := by
  intro w hT
  have m0 : w.cell? ⟨b, 0, none⟩ = some (.string s) := hT.2.1
  have m1 : w.cell? ⟨b1, 0, none⟩ = some (.int .i64 cu) := hT.2.2.1
  have m2 : w.cell? ⟨b2, 0, none⟩ = some (.int .i64 si) := hT.2.2.2
  have hl0 := block_lt_of_cell m0
  have hl1 := block_lt_of_cell m1
  have hl2 := block_lt_of_cell m2
  clear hT
  cases u1
  all_goals cases u2
  all_goals cases u3
  all_goals
    go_enter Tryd.func65, Tryd.ntmps65
    go_wp2_with fail
    go_ret
    exact ⟨rfl, Since.alloc (Since.refl w) _⟩
def KOf (b b1 : Nat) (s : ByteArray) (si : Int) : World → Prop := fun w => Tabs w ∧ KS b s w ∧ KI b1 si w
instance (b b1 : Nat) (s : ByteArray) (si : Int) : Kp (KOf b b1 s si) := ⟨fun h hb => ⟨Kp.keep h.1 hb, Kp.keep h.2.1 hb, Kp.keep h.2.2 hb⟩⟩
set_option maxRecDepth 100000 in
theorem of1_mk (b b1 : Nat) (s : ByteArray) (si : Int) (x y z : ByteArray) (n c : Int) (u1 u2 : Bool) (h1 : (y.toList == s.toList) = u1) (h2 : (n == si) = u2) : KMk (KOf b b1 s si) 68 #[.agg #[.string x, .int .i64 n, .string y, .int .i64 c, .string z], .pointer (some ⟨b, 0, none⟩), .pointer (some ⟨b1, 0, none⟩)] (.bool (u1 && u2)) := by
  intro w hT
  have m0 : w.cell? ⟨b, 0, none⟩ = some (.string s) := hT.2.1
  have m1 : w.cell? ⟨b1, 0, none⟩ = some (.int .i64 si) := hT.2.2
  have hl0 := block_lt_of_cell m0
  have hl1 := block_lt_of_cell m1
  clear hT
  cases u1
  all_goals cases u2
  all_goals
    go_enter Tryd.func68, Tryd.ntmps68
    go_wp2_with fail
    go_ret
    exact ⟨rfl, Since.alloc (Since.refl w) _⟩
def takes (s : List UInt8) (cu si : Int) (r : Row) : Bool := (r.2.2.2.2 == s) && (r.2.2.2.1 == cu) && (r.2.1 == si)
def wants (s : List UInt8) (si : Int) (r : Row) : Bool := (r.2.2.1 == s) && (r.2.1 == si)
set_option maxRecDepth 100000 in
theorem of_k (s : ByteArray) (si n : Int) (q : Bool) (hn : fndL (wants s.data.toList si) rows 0 = (n, q)) : KMk Tabs 29 #[.string s, .int .i64 si] (.tuple #[.int .i64 n, .bool q]) := by
  intro w hT
  have HS := Lib.hid (Since.refl w)
  obtain ⟨W1, hW1⟩ : ∃ W1, W1 = w.alloc (.cells #[.string s] 9) := ⟨_, rfl⟩
  have hs1 : Since w W1 := by rw [hW1]; exact Since.alloc (Since.refl w) _
  have hk1 : KS w.heap.size s W1 := by rw [hW1]; exact (Boxed.new w _ _).cell
  have hk2 : KI W1.heap.size si (W1.alloc (.cells #[.int .i64 si] 3)) := (Boxed.new W1 _ _).cell
  have hz : W1.heap.size = w.heap.size + 1 := by rw [hW1]; simp
  have hs2 : Since W1 (W1.alloc (.cells #[.int .i64 si] 3)) := Since.alloc (Since.refl W1) _
  have hkk : KOf w.heap.size W1.heap.size s si (W1.alloc (.cells #[.int .i64 si] 3)) := ⟨Kp.keep (Kp.keep hT hs1) hs2, Kp.keep hk1 hs2, hk2⟩
  have c2 := find_of (KOf w.heap.size W1.heap.size s si) (fun w h => h.1) (wants s.data.toList si) (.pointer (some ⟨w.heap.size, 0, none⟩)) (.pointer (some ⟨W1.heap.size, 0, none⟩)) (fun r => of1_mk w.heap.size W1.heap.size s si _ _ _ _ _ _ _ (by rw [toList_d, toList_d, list_bs]) rfl) n q hn
  have hs3 := Since.step hs1 hs2
  rw [hz] at hkk c2
  rw [hW1] at hkk hs3
  have HKK := Lib.hid hkk
  have HS3 := Lib.hid hs3
  clear hk1 hk2 hkk hT hn hs1 hs2 hs3 hz hW1
  go_enter Tryd.func29, Tryd.ntmps29
  go_wp2_with fail
  refine c2.calls0 HKK.out ?_
  intro w2 h2
  replace HS := Lib.hid (HS3.out.step h2)
  clear h2
  go_wp2_with fail
  go_ret2
  exact ⟨rfl, HS.out⟩
def KRdI3 (K : World → Prop) (f : Nat) (xs : List Int) (a b : Int) (v : Value) : Prop := ∀ w x, IntsS w x xs → K w → Calls Tryd.prog f #[x, .int .i64 a, .int .i64 b] w fun e w' => e = .returned v ∧ Below w.heap.size w w'
set_option maxRecDepth 100000 in
theorem KRdI3.calls0 {K : World → Prop} {f : Nat} {xs : List Int} {a b : Int} {v x : Value} (h : KRdI3 K f xs a b v) {w : World} (hx : IntsS w x xs) (hT : K w) {R : Ending → World → Prop} (k : ∀ w', Since w w' → R (.returned v) w') : Calls Tryd.prog f #[x, .int .i64 a, .int .i64 b] w R :=
  (h w x hx hT).mono fun _ _ ⟨he, hb⟩ => by subst he; exact k _ hb
set_option maxRecDepth 100000 in
theorem by_core (xs : List Int) (s : ByteArray) (cu si n : Int) (q : Bool) (hn : fndL (takes s.data.toList cu si) rows 0 = (n, q)) (c1 : Oid.RdI 54 xs (.string s)) : KRdI3 Tabs 27 xs cu si (.tuple #[.int .i64 n, .bool q]) := by
  intro w x hx hT
  have HS := Lib.hid (Since.refl w)
  obtain ⟨W1, hW1⟩ : ∃ W1, W1 = w.alloc (.cells #[.int .i64 cu] 3) := ⟨_, rfl⟩
  have hs1 : Since w W1 := by rw [hW1]; exact Since.alloc (Since.refl w) _
  have hk1 : KI w.heap.size cu W1 := by rw [hW1]; exact (Boxed.new w _ _).cell
  have hk2 : KI W1.heap.size si (W1.alloc (.cells #[.int .i64 si] 3)) := (Boxed.new W1 _ _).cell
  have hz : W1.heap.size = w.heap.size + 1 := by rw [hW1]; simp
  have hs2 : Since W1 (W1.alloc (.cells #[.int .i64 si] 3)) := Since.alloc (Since.refl W1) _
  have hs3 := Since.step hs1 hs2
  have HX := Lib.hid (hx.since hs3)
  have HT := Lib.hid (show Tabs (W1.alloc (.cells #[.int .i64 si] 3)) from Kp.keep hT hs3)
  have HK1 := Lib.hid (show KI w.heap.size cu (W1.alloc (.cells #[.int .i64 si] 3)) from Kp.keep hk1 hs2)
  have HK2 := Lib.hid (show KI (w.heap.size + 1) si (W1.alloc (.cells #[.int .i64 si] 3)) by rw [← hz]; exact hk2)
  have HS3 := Lib.hid hs3
  have HN := Lib.hid hn
  rw [hW1] at HX HT HK1 HK2 HS3
  clear hk1 hk2 hT hn hs1 hs2 hs3 hz hW1 hx
  go_enter Tryd.func27, Tryd.ntmps27
  go_wp2_with fail
  refine c1.calls0 HX.out ?_
  intro w1 h1
  have hs4 : Since w1 (w1.alloc (.cells #[.string s] 9)) := Since.alloc (Since.refl w1) _
  have hkk : KBy w1.heap.size w.heap.size (w.heap.size + 1) s cu si (w1.alloc (.cells #[.string s] 9)) := ⟨Kp.keep (Kp.keep HT.out h1) hs4, (Boxed.new w1 _ _).cell, Kp.keep (Kp.keep HK1.out h1) hs4, Kp.keep (Kp.keep HK2.out h1) hs4⟩
  have c2 := find_by (KBy w1.heap.size w.heap.size (w.heap.size + 1) s cu si) (fun w h => h.1) (takes s.data.toList cu si) (.pointer (some ⟨w1.heap.size, 0, none⟩)) (.pointer (some ⟨w.heap.size, 0, none⟩)) (.pointer (some ⟨w.heap.size + 1, 0, none⟩)) (fun r => by1_mk _ _ _ s cu si _ _ _ _ _ _ _ _ (by rw [toList_d, toList_d, list_bs]) rfl rfl) n q HN.out
  have HKK := Lib.hid hkk
  replace HS := Lib.hid (HS3.out.step (Since.step h1 hs4))
  clear hkk hs4 h1
  go_wp2_with fail
  refine c2.calls0 HKK.out ?_
  intro w2 h2
  replace HS := Lib.hid (HS.out.step h2)
  clear h2
  go_wp2_with fail
  go_ret2
  exact ⟨rfl, HS.out⟩
theorem by_rd (xs : List Int) (cu si n : Int) (q : Bool) (hn : (n, q) = fndL (takes (Oid.txtS xs).data.toList cu si) rows 0) : KRdI3 Tabs 27 xs cu si (.tuple #[.int .i64 n, .bool q]) :=
  by_core xs (Oid.txtS xs) cu si n q hn.symm (Oid.text_rd xs _ rfl)
end Kind
end Go.Proofs.YtpakifiphdlkoaaDoor

/- The reference of layer 23; kind.Check. -/
namespace Go.Proofs.YtpakifiphdlkoaaDoor
open Go.RowKit
namespace Kind
open Curve (KMkI KAll)
set_option maxRecDepth 100000 in
theorem rn_1 : Ret 34 #[.int .i64 1] (.string ⟨#[65, 69, 83, 45, 49, 50, 56]⟩) := by
  intro w
  go_enter Tryd.func34, Tryd.ntmps34
  go_wp2_with fail
  go_ret
  exact ⟨rfl, rfl⟩
set_option maxRecDepth 100000 in
theorem rt_1 : Ret 67 #[.int .i64 1] (.string ⟨#[50, 46, 49, 54, 46, 56, 52, 48, 46, 49, 46, 49, 48, 49, 46, 51, 46, 52, 46, 49, 46, 49]⟩) := by
  intro w
  go_enter Tryd.func67, Tryd.ntmps67
  go_wp2_with fail
  go_ret
  exact ⟨rfl, rfl⟩
set_option maxRecDepth 100000 in
theorem rc_1 : Ret 40 #[.int .i64 1] (.int .i64 0) := by
  intro w
  go_enter Tryd.func40, Tryd.ntmps40
  go_wp2_with fail
  go_ret
  exact ⟨rfl, rfl⟩
set_option maxRecDepth 100000 in
theorem rn_2 : Ret 34 #[.int .i64 2] (.string ⟨#[65, 69, 83, 45, 49, 57, 50]⟩) := by
  intro w
  go_enter Tryd.func34, Tryd.ntmps34
  go_wp2_with fail
  go_ret
  exact ⟨rfl, rfl⟩
set_option maxRecDepth 100000 in
theorem rt_2 : Ret 67 #[.int .i64 2] (.string ⟨#[50, 46, 49, 54, 46, 56, 52, 48, 46, 49, 46, 49, 48, 49, 46, 51, 46, 52, 46, 49, 46, 50, 49]⟩) := by
  intro w
  go_enter Tryd.func67, Tryd.ntmps67
  go_wp2_with fail
  go_ret
  exact ⟨rfl, rfl⟩
set_option maxRecDepth 100000 in
theorem rc_2 : Ret 40 #[.int .i64 2] (.int .i64 0) := by
  intro w
  go_enter Tryd.func40, Tryd.ntmps40
  go_wp2_with fail
  go_ret
  exact ⟨rfl, rfl⟩
set_option maxRecDepth 100000 in
theorem rn_3 : Ret 34 #[.int .i64 3] (.string ⟨#[65, 69, 83, 45, 50, 53, 54]⟩) := by
  intro w
  go_enter Tryd.func34, Tryd.ntmps34
  go_wp2_with fail
  go_ret
  exact ⟨rfl, rfl⟩
set_option maxRecDepth 100000 in
theorem rt_3 : Ret 67 #[.int .i64 3] (.string ⟨#[50, 46, 49, 54, 46, 56, 52, 48, 46, 49, 46, 49, 48, 49, 46, 51, 46, 52, 46, 49, 46, 52, 49]⟩) := by
  intro w
  go_enter Tryd.func67, Tryd.ntmps67
  go_wp2_with fail
  go_ret
  exact ⟨rfl, rfl⟩
set_option maxRecDepth 100000 in
theorem rc_3 : Ret 40 #[.int .i64 3] (.int .i64 0) := by
  intro w
  go_enter Tryd.func40, Tryd.ntmps40
  go_wp2_with fail
  go_ret
  exact ⟨rfl, rfl⟩
set_option maxRecDepth 100000 in
theorem rn_4 : Ret 34 #[.int .i64 4] (.string ⟨#[84, 68, 69, 83, 45, 50]⟩) := by
  intro w
  go_enter Tryd.func34, Tryd.ntmps34
  go_wp2_with fail
  go_ret
  exact ⟨rfl, rfl⟩
set_option maxRecDepth 100000 in
theorem rt_4 : Ret 67 #[.int .i64 4] (.string ⟨#[49, 46, 50, 46, 56, 52, 48, 46, 49, 49, 51, 53, 52, 57, 46, 51, 46, 55]⟩) := by
  intro w
  go_enter Tryd.func67, Tryd.ntmps67
  go_wp2_with fail
  go_ret
  exact ⟨rfl, rfl⟩
set_option maxRecDepth 100000 in
theorem rc_4 : Ret 40 #[.int .i64 4] (.int .i64 0) := by
  intro w
  go_enter Tryd.func40, Tryd.ntmps40
  go_wp2_with fail
  go_ret
  exact ⟨rfl, rfl⟩
set_option maxRecDepth 100000 in
theorem rn_5 : Ret 34 #[.int .i64 5] (.string ⟨#[84, 68, 69, 83, 45, 51]⟩) := by
  intro w
  go_enter Tryd.func34, Tryd.ntmps34
  go_wp2_with fail
  go_ret
  exact ⟨rfl, rfl⟩
set_option maxRecDepth 100000 in
theorem rt_5 : Ret 67 #[.int .i64 5] (.string ⟨#[49, 46, 50, 46, 56, 52, 48, 46, 49, 49, 51, 53, 52, 57, 46, 51, 46, 55]⟩) := by
  intro w
  go_enter Tryd.func67, Tryd.ntmps67
  go_wp2_with fail
  go_ret
  exact ⟨rfl, rfl⟩
set_option maxRecDepth 100000 in
theorem rc_5 : Ret 40 #[.int .i64 5] (.int .i64 0) := by
  intro w
  go_enter Tryd.func40, Tryd.ntmps40
  go_wp2_with fail
  go_ret
  exact ⟨rfl, rfl⟩
set_option maxRecDepth 100000 in
theorem rn_6 : Ret 34 #[.int .i64 6] (.string ⟨#[72, 77, 65, 67, 45, 83, 72, 65, 50, 53, 54]⟩) := by
  intro w
  go_enter Tryd.func34, Tryd.ntmps34
  go_wp2_with fail
  go_ret
  exact ⟨rfl, rfl⟩
set_option maxRecDepth 100000 in
theorem rt_6 : Ret 67 #[.int .i64 6] (.string ⟨#[49, 46, 50, 46, 56, 52, 48, 46, 49, 49, 51, 53, 52, 57, 46, 50, 46, 57]⟩) := by
  intro w
  go_enter Tryd.func67, Tryd.ntmps67
  go_wp2_with fail
  go_ret
  exact ⟨rfl, rfl⟩
set_option maxRecDepth 100000 in
theorem rc_6 : Ret 40 #[.int .i64 6] (.int .i64 0) := by
  intro w
  go_enter Tryd.func40, Tryd.ntmps40
  go_wp2_with fail
  go_ret
  exact ⟨rfl, rfl⟩
set_option maxRecDepth 100000 in
theorem rn_7 : Ret 34 #[.int .i64 7] (.string ⟨#[72, 77, 65, 67, 45, 83, 72, 65, 53, 49, 50]⟩) := by
  intro w
  go_enter Tryd.func34, Tryd.ntmps34
  go_wp2_with fail
  go_ret
  exact ⟨rfl, rfl⟩
set_option maxRecDepth 100000 in
theorem rt_7 : Ret 67 #[.int .i64 7] (.string ⟨#[49, 46, 50, 46, 56, 52, 48, 46, 49, 49, 51, 53, 52, 57, 46, 50, 46, 49, 49]⟩) := by
  intro w
  go_enter Tryd.func67, Tryd.ntmps67
  go_wp2_with fail
  go_ret
  exact ⟨rfl, rfl⟩
set_option maxRecDepth 100000 in
theorem rc_7 : Ret 40 #[.int .i64 7] (.int .i64 0) := by
  intro w
  go_enter Tryd.func40, Tryd.ntmps40
  go_wp2_with fail
  go_ret
  exact ⟨rfl, rfl⟩
set_option maxRecDepth 100000 in
theorem rn_8 : Ret 34 #[.int .i64 8] (.string ⟨#[69, 67, 45, 80, 50, 50, 52]⟩) := by
  intro w
  go_enter Tryd.func34, Tryd.ntmps34
  go_wp2_with fail
  go_ret
  exact ⟨rfl, rfl⟩
set_option maxRecDepth 100000 in
theorem rt_8 : Ret 67 #[.int .i64 8] (.string ⟨#[49, 46, 50, 46, 56, 52, 48, 46, 49, 48, 48, 52, 53, 46, 50, 46, 49]⟩) := by
  intro w
  go_enter Tryd.func67, Tryd.ntmps67
  go_wp2_with fail
  go_ret
  exact ⟨rfl, rfl⟩
set_option maxRecDepth 100000 in
theorem rc_8 : Ret 40 #[.int .i64 8] (.int .i64 1) := by
  intro w
  go_enter Tryd.func40, Tryd.ntmps40
  go_wp2_with fail
  go_ret
  exact ⟨rfl, rfl⟩
set_option maxRecDepth 100000 in
theorem rn_9 : Ret 34 #[.int .i64 9] (.string ⟨#[69, 67, 45, 80, 50, 53, 54]⟩) := by
  intro w
  go_enter Tryd.func34, Tryd.ntmps34
  go_wp2_with fail
  go_ret
  exact ⟨rfl, rfl⟩
set_option maxRecDepth 100000 in
theorem rt_9 : Ret 67 #[.int .i64 9] (.string ⟨#[49, 46, 50, 46, 56, 52, 48, 46, 49, 48, 48, 52, 53, 46, 50, 46, 49]⟩) := by
  intro w
  go_enter Tryd.func67, Tryd.ntmps67
  go_wp2_with fail
  go_ret
  exact ⟨rfl, rfl⟩
set_option maxRecDepth 100000 in
theorem rc_9 : Ret 40 #[.int .i64 9] (.int .i64 2) := by
  intro w
  go_enter Tryd.func40, Tryd.ntmps40
  go_wp2_with fail
  go_ret
  exact ⟨rfl, rfl⟩
set_option maxRecDepth 100000 in
theorem rn_10 : Ret 34 #[.int .i64 10] (.string ⟨#[69, 67, 45, 80, 51, 56, 52]⟩) := by
  intro w
  go_enter Tryd.func34, Tryd.ntmps34
  go_wp2_with fail
  go_ret
  exact ⟨rfl, rfl⟩
set_option maxRecDepth 100000 in
theorem rt_10 : Ret 67 #[.int .i64 10] (.string ⟨#[49, 46, 50, 46, 56, 52, 48, 46, 49, 48, 48, 52, 53, 46, 50, 46, 49]⟩) := by
  intro w
  go_enter Tryd.func67, Tryd.ntmps67
  go_wp2_with fail
  go_ret
  exact ⟨rfl, rfl⟩
set_option maxRecDepth 100000 in
theorem rc_10 : Ret 40 #[.int .i64 10] (.int .i64 3) := by
  intro w
  go_enter Tryd.func40, Tryd.ntmps40
  go_wp2_with fail
  go_ret
  exact ⟨rfl, rfl⟩
set_option maxRecDepth 100000 in
theorem rn_11 : Ret 34 #[.int .i64 11] (.string ⟨#[69, 67, 45, 80, 53, 50, 49]⟩) := by
  intro w
  go_enter Tryd.func34, Tryd.ntmps34
  go_wp2_with fail
  go_ret
  exact ⟨rfl, rfl⟩
set_option maxRecDepth 100000 in
theorem rt_11 : Ret 67 #[.int .i64 11] (.string ⟨#[49, 46, 50, 46, 56, 52, 48, 46, 49, 48, 48, 52, 53, 46, 50, 46, 49]⟩) := by
  intro w
  go_enter Tryd.func67, Tryd.ntmps67
  go_wp2_with fail
  go_ret
  exact ⟨rfl, rfl⟩
set_option maxRecDepth 100000 in
theorem rc_11 : Ret 40 #[.int .i64 11] (.int .i64 4) := by
  intro w
  go_enter Tryd.func40, Tryd.ntmps40
  go_wp2_with fail
  go_ret
  exact ⟨rfl, rfl⟩
set_option maxRecDepth 100000 in
theorem rn_no (k : Int) (h : k < 1 ∨ 11 < k) : Ret 34 #[.int .i64 k] (.string ⟨#[]⟩) := by
  intro w
  have a1 : (k == 1) = false := by rw [beq_eq_false_iff_ne]; omega
  have a2 : (k == 2) = false := by rw [beq_eq_false_iff_ne]; omega
  have a3 : (k == 3) = false := by rw [beq_eq_false_iff_ne]; omega
  have a4 : (k == 4) = false := by rw [beq_eq_false_iff_ne]; omega
  have a5 : (k == 5) = false := by rw [beq_eq_false_iff_ne]; omega
  have a6 : (k == 6) = false := by rw [beq_eq_false_iff_ne]; omega
  have a7 : (k == 7) = false := by rw [beq_eq_false_iff_ne]; omega
  have a8 : (k == 8) = false := by rw [beq_eq_false_iff_ne]; omega
  have a9 : (k == 9) = false := by rw [beq_eq_false_iff_ne]; omega
  have a10 : (k == 10) = false := by rw [beq_eq_false_iff_ne]; omega
  have a11 : (k == 11) = false := by rw [beq_eq_false_iff_ne]; omega
  clear h
  go_enter Tryd.func34, Tryd.ntmps34
  go_wp2_with fail
  go_ret
  exact ⟨rfl, rfl⟩
set_option maxRecDepth 100000 in
theorem rt_no (k : Int) (h : k < 1 ∨ 11 < k) : Ret 67 #[.int .i64 k] (.string ⟨#[]⟩) := by
  intro w
  have a1 : (k == 1) = false := by rw [beq_eq_false_iff_ne]; omega
  have a2 : (k == 2) = false := by rw [beq_eq_false_iff_ne]; omega
  have a3 : (k == 3) = false := by rw [beq_eq_false_iff_ne]; omega
  have a4 : (k == 4) = false := by rw [beq_eq_false_iff_ne]; omega
  have a5 : (k == 5) = false := by rw [beq_eq_false_iff_ne]; omega
  have a6 : (k == 6) = false := by rw [beq_eq_false_iff_ne]; omega
  have a7 : (k == 7) = false := by rw [beq_eq_false_iff_ne]; omega
  have a8 : (k == 8) = false := by rw [beq_eq_false_iff_ne]; omega
  have a9 : (k == 9) = false := by rw [beq_eq_false_iff_ne]; omega
  have a10 : (k == 10) = false := by rw [beq_eq_false_iff_ne]; omega
  have a11 : (k == 11) = false := by rw [beq_eq_false_iff_ne]; omega
  clear h
  go_enter Tryd.func67, Tryd.ntmps67
  go_wp2_with fail
  go_ret
  exact ⟨rfl, rfl⟩
set_option maxRecDepth 100000 in
theorem rc_no (k : Int) (h : k < 1 ∨ 11 < k) : Ret 40 #[.int .i64 k] (.int .i64 0) := by
  intro w
  by_cases h1 : 8 ≤ k
  · have h2 : ¬ k ≤ 11 := by omega
    clear h
    go_enter Tryd.func40, Tryd.ntmps40
    go_wp2_with fail
    go_ret
    exact ⟨rfl, rfl⟩
  · clear h
    go_enter Tryd.func40, Tryd.ntmps40
    go_wp2_with fail
    go_ret
    exact ⟨rfl, rfl⟩
theorem rname_ret (no : Int) (X : ByteArray) (hX : X = bs (rowOf no).1) : Ret 34 #[.int .i64 no] (.string X) := by
  subst hX
  rcases row_cases no with h | rfl | rfl | rfl | rfl | rfl | rfl | rfl | rfl | rfl | rfl | rfl
  · rw [rowOf_out no h]; exact rn_no no h
  · exact rn_1
  · exact rn_2
  · exact rn_3
  · exact rn_4
  · exact rn_5
  · exact rn_6
  · exact rn_7
  · exact rn_8
  · exact rn_9
  · exact rn_10
  · exact rn_11
theorem rsize_ret (no : Int) (X : Int) (hX : X = (rowOf no).2.1) : Ret 36 #[.int .i64 no] (.int .i64 X) := by
  subst hX
  rcases row_cases no with h | rfl | rfl | rfl | rfl | rfl | rfl | rfl | rfl | rfl | rfl | rfl
  · rw [rowOf_out no h]; exact rsize_no no h
  · exact rsize_1
  · exact rsize_2
  · exact rsize_3
  · exact rsize_4
  · exact rsize_5
  · exact rsize_6
  · exact rsize_7
  · exact rsize_8
  · exact rsize_9
  · exact rsize_10
  · exact rsize_11
theorem rletter_ret (no : Int) (X : ByteArray) (hX : X = bs (rowOf no).2.2.1) : Ret 38 #[.int .i64 no] (.string X) := by
  subst hX
  rcases row_cases no with h | rfl | rfl | rfl | rfl | rfl | rfl | rfl | rfl | rfl | rfl | rfl
  · rw [rowOf_out no h]; exact rletter_no no h
  · exact rletter_1
  · exact rletter_2
  · exact rletter_3
  · exact rletter_4
  · exact rletter_5
  · exact rletter_6
  · exact rletter_7
  · exact rletter_8
  · exact rletter_9
  · exact rletter_10
  · exact rletter_11
theorem rcurve_ret (no : Int) (X : Int) (hX : X = (rowOf no).2.2.2.1) : Ret 40 #[.int .i64 no] (.int .i64 X) := by
  subst hX
  rcases row_cases no with h | rfl | rfl | rfl | rfl | rfl | rfl | rfl | rfl | rfl | rfl | rfl
  · rw [rowOf_out no h]; exact rc_no no h
  · exact rc_1
  · exact rc_2
  · exact rc_3
  · exact rc_4
  · exact rc_5
  · exact rc_6
  · exact rc_7
  · exact rc_8
  · exact rc_9
  · exact rc_10
  · exact rc_11
theorem rtext_ret (no : Int) (X : ByteArray) (hX : X = bs (rowOf no).2.2.2.2) : Ret 67 #[.int .i64 no] (.string X) := by
  subst hX
  rcases row_cases no with h | rfl | rfl | rfl | rfl | rfl | rfl | rfl | rfl | rfl | rfl | rfl
  · rw [rowOf_out no h]; exact rt_no no h
  · exact rt_1
  · exact rt_2
  · exact rt_3
  · exact rt_4
  · exact rt_5
  · exact rt_6
  · exact rt_7
  · exact rt_8
  · exact rt_9
  · exact rt_10
  · exact rt_11
set_option maxRecDepth 100000 in
theorem rarcs_core (no : Int) (t : ByteArray) (xs : List Int) (q : Bool) (c1 : Ret 67 #[.int .i64 no] (.string t)) (c2 : MkI 70 #[.string t] xs q) : KMkI KAll 42 #[.int .i64 no] xs := by
  intro w _
  have HS := Lib.hid (Since.refl w)
  go_enter Tryd.func42, Tryd.ntmps42
  go_wp2_with fail
  repeat (first
    | (with_reducible refine c1.calls ?_; try go_wp2_with fail))
  refine (c2.calls0) ?_
  intro v1 w1 hv1 h1
  have HV1 := Lib.hid hv1
  clear hv1
  replace HS := Lib.hid (HS.out.step (by first | exact h1 | exact (Since.alloc (Since.refl _) _).step h1 | exact (Since.alloc (Since.alloc (Since.refl _) _) _).step h1 | exact (Since.drew (Since.refl _)).step h1 | exact (Since.alloc (Since.alloc (Since.alloc (Since.refl _) _) _) _).step h1))
  clear h1
  go_wp2_with fail
  go_ret
  exact ⟨_, rfl, HV1.out, HS.out⟩
theorem rarcs_k (no : Int) (xs : List Int) (hX : xs = arcsL (rowOf no)) : KMkI KAll 42 #[.int .i64 no] xs := by
  subst hX
  have h1 := row_short no
  have hz : (bs (rowOf no).2.2.2.2).size = (rowOf no).2.2.2.2.length := by
    show (bs (rowOf no).2.2.2.2).data.toList.length = _
    rw [list_bs]
  have c2 := Oid.rparse_mk (bs (rowOf no).2.2.2.2) (by omega) _ _ rfl rfl
  rw [list_bs] at c2
  exact rarcs_core no _ _ _ (rtext_ret no _ rfl) c2
theorem rowOf_at (i : Nat) (r : Row) (h : rows[i]? = some r) : rowOf ((i : Int) + 1) = r := by
  have hi : i < 11 := (List.getElem?_eq_some_iff.1 h).1
  unfold rowOf
  rw [if_pos (by omega), show ((i : Int) + 1 - 1).toNat = i by omega, h]
  rfl
theorem fndL_step (p : Row → Bool) (k : Nat) (r : Row) (h : rows[k]? = some r) (x : Int × Bool) (hx : fndL p (rows.drop k) k = x) : (if p r then ((k : Int) + 1, true) else fndL p (rows.drop (k + 1)) (k + 1)) = x := by
  have hk : k < rows.length := (List.getElem?_eq_some_iff.1 h).1
  rw [List.drop_eq_getElem_cons hk, (List.getElem?_eq_some_iff.1 h).2] at hx
  exact hx
set_option maxRecDepth 100000 in
set_option maxHeartbeats 2000000 in
theorem rof_ret (s : ByteArray) (si n : Int) (q : Bool) (hn : fndL (wants s.data.toList si) rows 0 = (n, q)) : Ret 30 #[.string s, .int .i64 si] (.tuple #[.int .i64 n, .bool q]) := by
  intro w
  have HN := Lib.hid hn
  clear hn
  go_enter Tryd.func30, Tryd.ntmps30
  go_wp2_with fail
  go_loop [6] (fun i => ∃ k : Nat, k ≤ 11 ∧ i = .int .i64 ((k : Int) + 1) ∧ Hid (fndL (wants s.data.toList si) (rows.drop k) k = (n, q))) (fun i => 12 - (intOf i).toNat)
  case atStart => exact ⟨0, by omega, rfl, HN⟩
  case round =>
    clear HN
    obtain ⟨k, hk, rfl, HN⟩ := hrel
    by_cases hlt2 : k < 11
    · obtain ⟨r, hr⟩ : ∃ r, rows[k]? = some r := ⟨rows[k]'hlt2, List.getElem?_eq_getElem _⟩
      have hd := fndL_step _ k r hr _ HN.out
      obtain ⟨z, hz⟩ : ∃ z, z = r.2.1 := ⟨_, rfl⟩
      obtain ⟨y, hy⟩ : ∃ y, y = bs r.2.2.1 := ⟨_, rfl⟩
      have c1 := rletter_ret ((k : Int) + 1) y (by rw [rowOf_at k r hr]; exact hy)
      have c2 := rsize_ret ((k : Int) + 1) z (by rw [rowOf_at k r hr]; exact hz)
      obtain ⟨u1, hu1⟩ : ∃ b, (r.2.2.1 == s.data.toList) = b := ⟨_, rfl⟩
      obtain ⟨u2, hu2⟩ : ∃ b, (r.2.1 == si) = b := ⟨_, rfl⟩
      have t1 : (y.toList == s.toList) = u1 := by rw [hy, toList_d, toList_d, list_bs]; exact hu1
      have t2 : (z == si) = u2 := by rw [hz]; exact hu2
      unfold wants at hd
      rw [hu1, hu2] at hd
      clear hr hz hy hu1 hu2
      cases u1 <;> cases u2
      case true.true =>
        rw [if_pos (by rfl)] at hd
        cases hd
        clear HN
        go_wp2_with fail
        repeat (first
          | (with_reducible refine c1.calls ?_; try go_wp2_with fail)
          | (with_reducible refine c2.calls ?_; try go_wp2_with fail))
        go_ret2
        exact ⟨rfl, rfl⟩
      all_goals
        rw [if_neg (by decide)] at hd
        have HN2 := Lib.hid hd
        clear hd HN
        go_wp2_with fail
        repeat (first
          | (with_reducible refine c1.calls ?_; try go_wp2_with fail)
          | (with_reducible refine c2.calls ?_; try go_wp2_with fail))
        go_round
        case rel => exact ⟨k + 1, by omega, by go_num, HN2⟩
        case measure => simp [intOf]; omega
    · obtain rfl : k = 11 := by omega
      have hd := HN.out
      cases hd
      go_wp2_with fail
      go_ret2
      exact ⟨rfl, rfl⟩
def RdI3 (f : Nat) (xs : List Int) (a b : Int) (v : Value) : Prop := ∀ w x, IntsS w x xs → Calls Tryd.prog f #[x, .int .i64 a, .int .i64 b] w fun e w' => e = .returned v ∧ Below w.heap.size w w'
set_option maxRecDepth 100000 in
theorem RdI3.calls0 {f : Nat} {xs : List Int} {a b : Int} {v x : Value} (h : RdI3 f xs a b v) {w : World} (hx : IntsS w x xs) {R : Ending → World → Prop} (k : ∀ w', Since w w' → R (.returned v) w') : Calls Tryd.prog f #[x, .int .i64 a, .int .i64 b] w R :=
  (h w x hx).mono fun _ _ ⟨he, hb⟩ => by subst he; exact k _ hb
set_option maxRecDepth 100000 in
set_option maxHeartbeats 4000000 in
theorem rby_rd (xs : List Int) (s : ByteArray) (cu si n : Int) (q : Bool) (cT : Oid.RdI 66 xs (.string s)) (hn : fndL (takes s.data.toList cu si) rows 0 = (n, q)) : RdI3 28 xs cu si (.tuple #[.int .i64 n, .bool q]) := by
  intro w x hx
  have HS := Lib.hid (Since.refl w)
  have HN := Lib.hid hn
  clear hn
  go_enter Tryd.func28, Tryd.ntmps28
  go_wp2_with fail
  refine (cT.calls0 hx) ?_
  intro w1 h1
  replace HS := Lib.hid (HS.out.step (by first | exact h1 | exact (Since.alloc (Since.refl _) _).step h1 | exact (Since.alloc (Since.alloc (Since.refl _) _) _).step h1 | exact (Since.drew (Since.refl _)).step h1 | exact (Since.alloc (Since.alloc (Since.alloc (Since.refl _) _) _) _).step h1))
  clear h1
  go_wp2_with fail
  clear hx cT
  go_loop [9] (fun i => ∃ k : Nat, k ≤ 11 ∧ i = .int .i64 ((k : Int) + 1) ∧ Hid (fndL (takes s.data.toList cu si) (rows.drop k) k = (n, q))) (fun i => 12 - (intOf i).toNat)
  case atStart => exact ⟨0, by omega, rfl, HN⟩
  case round =>
    clear HN
    obtain ⟨k, hk, rfl, HN⟩ := hrel
    by_cases hlt2 : k < 11
    · obtain ⟨r, hr⟩ : ∃ r, rows[k]? = some r := ⟨rows[k]'hlt2, List.getElem?_eq_getElem _⟩
      have hd := fndL_step _ k r hr _ HN.out
      obtain ⟨z, hz⟩ : ∃ z, z = r.2.1 := ⟨_, rfl⟩
      obtain ⟨c, hc⟩ : ∃ c, c = r.2.2.2.1 := ⟨_, rfl⟩
      obtain ⟨y, hy⟩ : ∃ y, y = bs r.2.2.2.2 := ⟨_, rfl⟩
      have c1 := rtext_ret ((k : Int) + 1) y (by rw [rowOf_at k r hr]; exact hy)
      have c2 := rcurve_ret ((k : Int) + 1) c (by rw [rowOf_at k r hr]; exact hc)
      have c3 := rsize_ret ((k : Int) + 1) z (by rw [rowOf_at k r hr]; exact hz)
      obtain ⟨u1, hu1⟩ : ∃ b, (r.2.2.2.2 == s.data.toList) = b := ⟨_, rfl⟩
      obtain ⟨u2, hu2⟩ : ∃ b, (r.2.2.2.1 == cu) = b := ⟨_, rfl⟩
      obtain ⟨u3, hu3⟩ : ∃ b, (r.2.1 == si) = b := ⟨_, rfl⟩
      have t1 : (y.toList == s.toList) = u1 := by rw [hy, toList_d, toList_d, list_bs]; exact hu1
      have t2 : (c == cu) = u2 := by rw [hc]; exact hu2
      have t3 : (z == si) = u3 := by rw [hz]; exact hu3
      unfold takes at hd
      rw [hu1, hu2, hu3] at hd
      clear hr hz hy hc hu1 hu2 hu3
      cases u1 <;> cases u2 <;> cases u3
      case true.true.true =>
        rw [if_pos (by rfl)] at hd
        cases hd
        clear HN
        go_wp2_with fail
        repeat (first
          | (with_reducible refine c1.calls ?_; try go_wp2_with fail)
          | (with_reducible refine c2.calls ?_; try go_wp2_with fail)
          | (with_reducible refine c3.calls ?_; try go_wp2_with fail))
        go_ret2
        exact ⟨rfl, HS.out⟩
      all_goals
        rw [if_neg (by decide)] at hd
        have HN2 := Lib.hid hd
        clear hd HN
        go_wp2_with fail
        repeat (first
          | (with_reducible refine c1.calls ?_; try go_wp2_with fail)
          | (with_reducible refine c2.calls ?_; try go_wp2_with fail)
          | (with_reducible refine c3.calls ?_; try go_wp2_with fail))
        go_round
        case rel => exact ⟨k + 1, by omega, by go_num, HN2⟩
        case measure => simp [intOf]; omega
    · obtain rfl : k = 11 := by omega
      have hd := HN.out
      cases hd
      go_wp2_with fail
      go_ret2
      exact ⟨rfl, HS.out⟩
end Kind
end Go.Proofs.YtpakifiphdlkoaaDoor

/- kind.Check, and the reference's; what the laws of layer 23 call awake. -/
namespace Go.Proofs.YtpakifiphdlkoaaDoor
open Go.RowKit
namespace Kind
open Curve (KMkI KAll)
/-- both tables -/
def Tab2 : World → Prop := fun w => Tabs w ∧ Curve.Tabs w
instance : Kp Tab2 := ⟨fun h hb => ⟨Kp.keep h.1 hb, Kp.keep h.2 hb⟩⟩
theorem Tab2.since {w w' : World} (h : Tab2 w) (hs : Since w w') : Tab2 w' := Kp.keep h hs
theorem KMk.t2 {f : Nat} {args : Array Value} {v : Value} (h : KMk Tabs f args v) : KMk Tab2 f args v := h.weak (fun _ h => h.1)
/-- why a key is none of a line's kind -/
def chkE (r : Row) (s : List UInt8) : Int := if r.2.1 = 0 then 8 else if (s.length : Int) ≠ r.2.1 then 9 else if r.2.2.2.1 ≠ 0 ∧ Curve.scB (Curve.rowOf r.2.2.2.1) s = false then 10 else 0
set_option maxRecDepth 100000 in
theorem chk_0 (no : Int) (s : ByteArray) (x y z : ByteArray) (n c : Int) (hn : (n == 0) = true) (c1 : KMk Tab2 69 #[.int .i64 no] (.agg #[.string x, .int .i64 n, .string y, .int .i64 c, .string z])) : KMk Tab2 43 #[.int .i64 no, .string s] (.int .i64 8) := by
  intro w hT
  go_enter Tryd.func43, Tryd.ntmps43
  go_wp2_with fail
  refine c1.calls0 hT ?_
  intro w1 h1
  have HSB := Lib.hid (Since.alloc h1 (.cells #[.string x, .int .i64 n, .string y, .int .i64 c, .string z] 59))
  clear hT h1
  go_wp2_with fail
  go_ret
  exact ⟨rfl, HSB.out⟩
set_option maxRecDepth 100000 in
theorem chk_l (no : Int) (s : ByteArray) (x y z : ByteArray) (n c : Int) (hn : (n == 0) = false) (hl : ((s.size : Int) != n) = true) (c1 : KMk Tab2 69 #[.int .i64 no] (.agg #[.string x, .int .i64 n, .string y, .int .i64 c, .string z])) : KMk Tab2 43 #[.int .i64 no, .string s] (.int .i64 9) := by
  intro w hT
  go_enter Tryd.func43, Tryd.ntmps43
  go_wp2_with fail
  refine c1.calls0 hT ?_
  intro w1 h1
  have HSB := Lib.hid (Since.alloc h1 (.cells #[.string x, .int .i64 n, .string y, .int .i64 c, .string z] 59))
  clear hT h1
  go_wp2_with fail
  go_ret
  exact ⟨rfl, HSB.out⟩
set_option maxRecDepth 100000 in
theorem chk_n (no : Int) (s : ByteArray) (x y z : ByteArray) (n c : Int) (hn : (n == 0) = false) (hl : ((s.size : Int) != n) = false) (hc : (c != 0) = false) (c1 : KMk Tab2 69 #[.int .i64 no] (.agg #[.string x, .int .i64 n, .string y, .int .i64 c, .string z])) : KMk Tab2 43 #[.int .i64 no, .string s] (.int .i64 0) := by
  intro w hT
  go_enter Tryd.func43, Tryd.ntmps43
  go_wp2_with fail
  refine c1.calls0 hT ?_
  intro w1 h1
  have HSB := Lib.hid (Since.alloc h1 (.cells #[.string x, .int .i64 n, .string y, .int .i64 c, .string z] 59))
  clear hT h1
  go_wp2_with fail
  go_ret
  exact ⟨rfl, HSB.out⟩
set_option maxRecDepth 100000 in
theorem chk_f (no : Int) (s : ByteArray) (x y z : ByteArray) (n c : Int) (hn : (n == 0) = false) (hl : ((s.size : Int) != n) = false) (hc : (c != 0) = true) (c1 : KMk Tab2 69 #[.int .i64 no] (.agg #[.string x, .int .i64 n, .string y, .int .i64 c, .string z])) (c2 : KMk Tab2 24 #[.int .i64 c, .string s] (.bool false)) : KMk Tab2 43 #[.int .i64 no, .string s] (.int .i64 10) := by
  intro w hT
  go_enter Tryd.func43, Tryd.ntmps43
  go_wp2_with fail
  refine c1.calls0 hT ?_
  intro w1 h1
  have HSB := Lib.hid (Since.alloc h1 (.cells #[.string x, .int .i64 n, .string y, .int .i64 c, .string z] 59))
  have HTB := Lib.hid (Kp.keep hT HSB.out)
  clear hT h1
  go_wp2_with fail
  refine c2.calls0 HTB.out ?_
  intro w2 h2
  have HSC := Lib.hid (HSB.out.step h2)
  clear h2
  go_wp2_with fail
  go_ret
  exact ⟨rfl, HSC.out⟩
set_option maxRecDepth 100000 in
theorem chk_t (no : Int) (s : ByteArray) (x y z : ByteArray) (n c : Int) (hn : (n == 0) = false) (hl : ((s.size : Int) != n) = false) (hc : (c != 0) = true) (c1 : KMk Tab2 69 #[.int .i64 no] (.agg #[.string x, .int .i64 n, .string y, .int .i64 c, .string z])) (c2 : KMk Tab2 24 #[.int .i64 c, .string s] (.bool true)) : KMk Tab2 43 #[.int .i64 no, .string s] (.int .i64 0) := by
  intro w hT
  go_enter Tryd.func43, Tryd.ntmps43
  go_wp2_with fail
  refine c1.calls0 hT ?_
  intro w1 h1
  have HSB := Lib.hid (Since.alloc h1 (.cells #[.string x, .int .i64 n, .string y, .int .i64 c, .string z] 59))
  have HTB := Lib.hid (Kp.keep hT HSB.out)
  clear hT h1
  go_wp2_with fail
  refine c2.calls0 HTB.out ?_
  intro w2 h2
  have HSC := Lib.hid (HSB.out.step h2)
  clear h2
  go_wp2_with fail
  go_ret
  exact ⟨rfl, HSC.out⟩
theorem check_k (no : Int) (s : ByteArray) (hm : s.size ≤ 140737488355328) (E : Int) (hE : E = chkE (rowOf no) s.data.toList) : KMk Tab2 43 #[.int .i64 no, .string s] (.int .i64 E) := by
  subst hE
  have c1 := KMk.t2 (by_k no)
  unfold rowV at c1
  unfold chkE
  have hl : s.data.toList.length = s.size := rfl
  rw [hl]
  by_cases h0 : (rowOf no).2.1 = 0
  · rw [if_pos h0]; exact chk_0 no s _ _ _ _ _ (beq_iff_eq.2 h0) c1
  · rw [if_neg h0]
    by_cases h1 : (s.size : Int) ≠ (rowOf no).2.1
    · rw [if_pos h1]; exact chk_l no s _ _ _ _ _ (beq_eq_false_iff_ne.2 h0) (bne_iff_ne.2 h1) c1
    · have h1' : (s.size : Int) = (rowOf no).2.1 := by omega
      rw [if_neg h1]
      by_cases h2 : (rowOf no).2.2.2.1 = 0
      · rw [if_neg (fun h => h.1 h2)]; exact chk_n no s _ _ _ _ _ (beq_eq_false_iff_ne.2 h0) (bne_eq_false_iff_eq.2 h1') (bne_eq_false_iff_eq.2 h2) c1
      · have c2 : KMk Tab2 24 #[.int .i64 (rowOf no).2.2.2.1, .string s] (.bool (Curve.scB (Curve.rowOf (rowOf no).2.2.2.1) s.data.toList)) := (Curve.scalar_k _ s hm _ rfl).weak (fun _ h => h.2)
        cases hq : Curve.scB (Curve.rowOf (rowOf no).2.2.2.1) s.data.toList with
        | false =>
          rw [hq] at c2
          rw [if_pos ⟨h2, rfl⟩]; exact chk_f no s _ _ _ _ _ (beq_eq_false_iff_ne.2 h0) (bne_eq_false_iff_eq.2 h1') (bne_iff_ne.2 h2) c1 c2
        | true =>
          rw [hq] at c2
          rw [if_neg (fun h => by cases h.2)]; exact chk_t no s _ _ _ _ _ (beq_eq_false_iff_ne.2 h0) (bne_eq_false_iff_eq.2 h1') (bne_iff_ne.2 h2) c1 c2
set_option maxRecDepth 100000 in
theorem rchk_0 (no : Int) (s : ByteArray) (n _c : Int) (hn : (n == 0) = true) (c1 : Ret 36 #[.int .i64 no] (.int .i64 n)) : Mak 44 #[.int .i64 no, .string s] (.int .i64 8) := by
  intro w
  have HS := Lib.hid (Since.refl w)
  go_enter Tryd.func44, Tryd.ntmps44
  go_wp2_with fail
  repeat (first
    | (with_reducible refine c1.calls ?_; try go_wp2_with fail))
  go_ret
  exact ⟨rfl, HS.out⟩
set_option maxRecDepth 100000 in
theorem rchk_l (no : Int) (s : ByteArray) (n _c : Int) (hn : (n == 0) = false) (hl : ((s.size : Int) != n) = true) (c1 : Ret 36 #[.int .i64 no] (.int .i64 n)) : Mak 44 #[.int .i64 no, .string s] (.int .i64 9) := by
  intro w
  have HS := Lib.hid (Since.refl w)
  go_enter Tryd.func44, Tryd.ntmps44
  go_wp2_with fail
  repeat (first
    | (with_reducible refine c1.calls ?_; try go_wp2_with fail))
  go_ret
  exact ⟨rfl, HS.out⟩
set_option maxRecDepth 100000 in
theorem rchk_n (no : Int) (s : ByteArray) (n c : Int) (hn : (n == 0) = false) (hl : ((s.size : Int) != n) = false) (hc : decide (0 < c) = false) (c1 : Ret 36 #[.int .i64 no] (.int .i64 n)) (c2 : Ret 40 #[.int .i64 no] (.int .i64 c)) : Mak 44 #[.int .i64 no, .string s] (.int .i64 0) := by
  intro w
  have HS := Lib.hid (Since.refl w)
  go_enter Tryd.func44, Tryd.ntmps44
  go_wp2_with fail
  repeat (first
    | (with_reducible refine c1.calls ?_; try go_wp2_with fail)
    | (with_reducible refine c2.calls ?_; try go_wp2_with fail))
  go_ret
  exact ⟨rfl, HS.out⟩
set_option maxRecDepth 100000 in
theorem rchk_f (no : Int) (s : ByteArray) (n c : Int) (hn : (n == 0) = false) (hl : ((s.size : Int) != n) = false) (hc : decide (0 < c) = true) (c1 : Ret 36 #[.int .i64 no] (.int .i64 n)) (c2 : Ret 40 #[.int .i64 no] (.int .i64 c)) (c3 : Mak 25 #[.int .i64 c, .string s] (.bool false)) : Mak 44 #[.int .i64 no, .string s] (.int .i64 10) := by
  intro w
  have HS := Lib.hid (Since.refl w)
  go_enter Tryd.func44, Tryd.ntmps44
  go_wp2_with fail
  repeat (first
    | (with_reducible refine c1.calls ?_; try go_wp2_with fail)
    | (with_reducible refine c2.calls ?_; try go_wp2_with fail)
    | (with_reducible refine c3.calls HS.out ?_; intro wz hz; replace HS := Lib.hid hz; clear hz; try go_wp2_with fail))
  go_ret
  exact ⟨rfl, HS.out⟩
set_option maxRecDepth 100000 in
theorem rchk_t (no : Int) (s : ByteArray) (n c : Int) (hn : (n == 0) = false) (hl : ((s.size : Int) != n) = false) (hc : decide (0 < c) = true) (c1 : Ret 36 #[.int .i64 no] (.int .i64 n)) (c2 : Ret 40 #[.int .i64 no] (.int .i64 c)) (c3 : Mak 25 #[.int .i64 c, .string s] (.bool true)) : Mak 44 #[.int .i64 no, .string s] (.int .i64 0) := by
  intro w
  have HS := Lib.hid (Since.refl w)
  go_enter Tryd.func44, Tryd.ntmps44
  go_wp2_with fail
  repeat (first
    | (with_reducible refine c1.calls ?_; try go_wp2_with fail)
    | (with_reducible refine c2.calls ?_; try go_wp2_with fail)
    | (with_reducible refine c3.calls HS.out ?_; intro wz hz; replace HS := Lib.hid hz; clear hz; try go_wp2_with fail))
  go_ret
  exact ⟨rfl, HS.out⟩
theorem row_curve (no : Int) : 0 ≤ (rowOf no).2.2.2.1 := by
  unfold rowOf
  split
  · rename_i h
    have hall : ∀ r ∈ rows, 0 ≤ r.2.2.2.1 := by decide +kernel
    cases hr : rows[(no - 1).toNat]? with
    | none => exact Int.le_refl 0
    | some r => exact hall r (List.mem_of_getElem? hr)
  · exact Int.le_refl 0
theorem rcheck_mak (no : Int) (s : ByteArray) (hm : s.size ≤ 140737488355328) (E : Int) (hE : E = chkE (rowOf no) s.data.toList) : Mak 44 #[.int .i64 no, .string s] (.int .i64 E) := by
  subst hE
  have c1 := rsize_ret no _ rfl
  have c2 := rcurve_ret no _ rfl
  have hcv := row_curve no
  unfold chkE
  have hl : s.data.toList.length = s.size := rfl
  rw [hl]
  by_cases h0 : (rowOf no).2.1 = 0
  · rw [if_pos h0]; exact rchk_0 no s _ 0 (beq_iff_eq.2 h0) c1
  · rw [if_neg h0]
    by_cases h1 : (s.size : Int) ≠ (rowOf no).2.1
    · rw [if_pos h1]; exact rchk_l no s _ 0 (beq_eq_false_iff_ne.2 h0) (bne_iff_ne.2 h1) c1
    · have h1' : (s.size : Int) = (rowOf no).2.1 := by omega
      rw [if_neg h1]
      by_cases h2 : (rowOf no).2.2.2.1 = 0
      · rw [if_neg (fun h => h.1 h2)]; exact rchk_n no s _ _ (beq_eq_false_iff_ne.2 h0) (bne_eq_false_iff_eq.2 h1') (decide_eq_false (by omega)) c1 c2
      · have c3 := Curve.rscalar_mak (rowOf no).2.2.2.1 s hm _ rfl
        cases hq : Curve.scB (Curve.rowOf (rowOf no).2.2.2.1) s.data.toList with
        | false =>
          rw [hq] at c3
          rw [if_pos ⟨h2, rfl⟩]; exact rchk_f no s _ _ (beq_eq_false_iff_ne.2 h0) (bne_eq_false_iff_eq.2 h1') (decide_eq_true (by omega)) c1 c2 c3
        | true =>
          rw [hq] at c3
          rw [if_neg (fun h => by cases h.2)]; exact rchk_t no s _ _ (beq_eq_false_iff_ne.2 h0) (bne_eq_false_iff_eq.2 h1') (decide_eq_true (by omega)) c1 c2 c3
set_option maxRecDepth 100000 in
set_option maxHeartbeats 4000000 in
theorem awake_core (c1 : KMk Tab2 29 #[.string ⟨#[84]⟩, .int .i64 24] (.tuple #[.int .i64 5, .bool true])) (c2 : KMk Tab2 31 #[.string ⟨#[69]⟩] (.int .i64 66)) (c3 : KMk Tab2 33 #[.int .i64 9] (.string ⟨#[69, 67, 45, 80, 50, 53, 54]⟩)) (c4 : KMk Tab2 35 #[.int .i64 1] (.int .i64 16))
    (c5 : KMk Tab2 37 #[.int .i64 7] (.string ⟨#[72]⟩)) (c6 : KMk Tab2 39 #[.int .i64 11] (.int .i64 4)) (c7 : KMk Tab2 43 #[.int .i64 1, .string ⟨#[48]⟩] (.int .i64 9)) : KMk Tab2 26 #[] (.bool true) := by
  intro w hT
  have HS := Lib.hid (Since.refl w)
  have HT := Lib.hid hT
  clear hT
  go_enter Tryd.func26, Tryd.ntmps26
  go_wp2_with fail
  repeat (first
    | (with_reducible refine c1.calls0 HT.out ?_; intro wz hz; replace HT := Lib.hid (Kp.keep HT.out hz); replace HS := Lib.hid (HS.out.step hz); clear hz; try go_wp2_with fail)
    | (with_reducible refine c2.calls0 HT.out ?_; intro wz hz; replace HT := Lib.hid (Kp.keep HT.out hz); replace HS := Lib.hid (HS.out.step hz); clear hz; try go_wp2_with fail)
    | (with_reducible refine c3.calls0 HT.out ?_; intro wz hz; replace HT := Lib.hid (Kp.keep HT.out hz); replace HS := Lib.hid (HS.out.step hz); clear hz; try go_wp2_with fail)
    | (with_reducible refine c4.calls0 HT.out ?_; intro wz hz; replace HT := Lib.hid (Kp.keep HT.out hz); replace HS := Lib.hid (HS.out.step hz); clear hz; try go_wp2_with fail)
    | (with_reducible refine c5.calls0 HT.out ?_; intro wz hz; replace HT := Lib.hid (Kp.keep HT.out hz); replace HS := Lib.hid (HS.out.step hz); clear hz; try go_wp2_with fail)
    | (with_reducible refine c6.calls0 HT.out ?_; intro wz hz; replace HT := Lib.hid (Kp.keep HT.out hz); replace HS := Lib.hid (HS.out.step hz); clear hz; try go_wp2_with fail)
    | (with_reducible refine c7.calls0 HT.out ?_; intro wz hz; replace HT := Lib.hid (Kp.keep HT.out hz); replace HS := Lib.hid (HS.out.step hz); clear hz; try go_wp2_with fail))
  go_ret
  exact ⟨rfl, HS.out⟩
theorem awake_k : KMk Tab2 26 #[] (.bool true) :=
  awake_core (KMk.t2 (of_k ⟨#[84]⟩ 24 5 true (by decide +kernel))) (KMk.t2 (most_k ⟨#[69]⟩ 66 (by decide +kernel))) (KMk.t2 (name_k 9 _ rfl)) (KMk.t2 (size_k 1 16 (by decide +kernel))) (KMk.t2 (letter_k 7 _ rfl)) (KMk.t2 (curve_k 11 4 (by decide +kernel))) (check_k 1 ⟨#[48]⟩ (by decide) 9 (by decide +kernel))
set_option maxRecDepth 100000 in
theorem tabs4_of {W : World} (h : laidMetH Tryd.prog [("unicode/utf8.acceptRanges", Rows.laid_unicode_utf8_acceptRanges), ("claviger/curve.lines", Rows.laid_claviger_curve_lines), ("claviger/kind.lines", Rows.laid_claviger_kind_lines), ("unicode/utf8.first", Rows.laid_unicode_utf8_first)] W) : Tab2 W := by
  rw [MakeChecks.laidMetH_plain _ _ _ (by kernel_rfl)] at h
  obtain ⟨ps, ⟨_, _, _, _, _, _, _, _, _, _, ⟨g0, t0, cs0, f0, p0, q0, hg0, ht0, hv0, hd0, ⟨g1, t1, cs1, f1, p1, q1, hg1, ht1, hv1, hd1, _, _⟩, _⟩, _⟩, _, _⟩ := h
  exact ⟨tabs_at hg1 ht1 hv1 hd1, Curve.tabs_at hg0 ht0 hv0 hd0⟩
end Kind
end Go.Proofs.YtpakifiphdlkoaaDoor
