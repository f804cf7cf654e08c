/- Joined texts. -/
-- PACK: YtgfdomdbjiflmaaDoorFrame YtgfdomdbjiflmaaDoorFrame2
import Derived.Test.YtgfdomdbjiflmaaDoorDk56
import Derived.Test.YtgfdomdbjiflmaaDoorDk53
import Derived.Test.YtgfdomdbjiflmaaDoorDk73
import Derived.BigQuiet
import Derived.Deep.QuietTactic

/- Package frame: Top, Join, the payload's and the tag's digits. -/
namespace Go.Proofs.YtgfdomdbjiflmaaDoor
open Go.RowKit
namespace Frame
open Att Templ Header
/-- which numbers of bytes of a payload may be -/
def badN (l : ByteArray) (n : Int) : Bool := decide (Kind.mostN l.data.toList = 0) || decide (n < 16) || decide (4096 < n) || decide (n % 16 ≠ 0)
def pk (L : List A2) : ByteArray := Opt.packX (oL L)
def topN (L : List A2) (n : Int) : Int := 16 + ((pk L).size : Int) + 2 * n + 32
def topE (l u m v e : ByteArray) (L : List A2) (n : Int) : Int := if badN l n then 1 else if Table.okB u.data.toList m.data.toList v.data.toList e.data.toList l.data.toList = false then 12 else if oE L ≠ 0 then oE L else if Opt.packE (oL L) ≠ 0 then 4 else if 9999 < topN L n then 4 else 0
def topX (l u m v e : ByteArray) (L : List A2) (n : Int) : ByteArray := if topE l u m v e L n = 0 then encX (topN L n) (Opt.packN (oL L)) l u m v e ++ pk L else ⟨#[]⟩
end Frame
end Go.Proofs.YtgfdomdbjiflmaaDoor

/- Package frame: Join, the digits behind the top, the header. -/
namespace Go.Proofs.YtgfdomdbjiflmaaDoor
open Go.RowKit
namespace Frame
open Att Templ Header
/-- what is put together -/
def joinX (t c g : ByteArray) : ByteArray := t ++ bs (Dig.hexL c.data.toList) ++ bs (Dig.hexL g.data.toList)
/-- the payload and the tag whose digits a text has -/
def okT (t : List UInt8) : Bool := Dig.unB t && decide (32 ≤ (Dig.unS t).size) && decide ((Dig.unS t).size % 16 = 0)
def selC (t : List UInt8) : ByteArray := if okT t then (Dig.unS t).extract 0 ((Dig.unS t).size - 16) else ⟨#[]⟩
def selT (t : List UInt8) : ByteArray := if okT t then (Dig.unS t).extract ((Dig.unS t).size - 16) (Dig.unS t).size else ⟨#[]⟩
def selE (t : List UInt8) : Int := if okT t then 0 else 5
def selV (t : List UInt8) : Value := .tuple #[.string (selC t), .string (selT t), .int .i64 (selE t)]
set_option maxRecDepth 100000 in
theorem sel_b1 (t S : ByteArray) (c1 : Mak 117 #[.string t] (.tuple #[.string S, .bool false]))  : Mak 102 #[.string t] (.tuple #[.string ⟨#[]⟩, .string ⟨#[]⟩, .int .i64 5]) := by
  intro w
  have HS := Lib.hid (Since.refl w)
  go_enter Tryd.func102, Tryd.ntmps102
  go_wp2_with fail
  refine (c1.calls0) ?_
  intro w1 h1
  replace HS := Lib.hid (HS.out.step (by first | exact h1 | exact (Since.alloc (Since.refl _) _).step h1 | exact (Since.alloc (Since.alloc (Since.refl _) _) _).step h1 | exact (Since.drew (Since.refl _)).step h1 | exact (Since.alloc (Since.alloc (Since.alloc (Since.refl _) _) _) _).step h1))
  clear h1
  go_wp2_with fail
  go_ret3
  exact ⟨rfl, HS.out⟩
set_option maxRecDepth 100000 in
theorem sel_b2 (t S : ByteArray) (c1 : Mak 117 #[.string t] (.tuple #[.string S, .bool true])) (h : decide ((S.size : Int) < 32) = true) : Mak 102 #[.string t] (.tuple #[.string ⟨#[]⟩, .string ⟨#[]⟩, .int .i64 5]) := by
  intro w
  have HS := Lib.hid (Since.refl w)
  go_enter Tryd.func102, Tryd.ntmps102
  go_wp2_with fail
  refine (c1.calls0) ?_
  intro w1 h1
  replace HS := Lib.hid (HS.out.step (by first | exact h1 | exact (Since.alloc (Since.refl _) _).step h1 | exact (Since.alloc (Since.alloc (Since.refl _) _) _).step h1 | exact (Since.drew (Since.refl _)).step h1 | exact (Since.alloc (Since.alloc (Since.alloc (Since.refl _) _) _) _).step h1))
  clear h1
  go_wp2_with fail
  go_ret3
  exact ⟨rfl, HS.out⟩
set_option maxRecDepth 100000 in
theorem sel_b3 (t S : ByteArray) (c1 : Mak 117 #[.string t] (.tuple #[.string S, .bool true])) (h : decide ((S.size : Int) < 32) = false) (h2 : ((S.size : Int) % 16 != 0) = true) (_h3 : ((S.size : Int).tmod 16 != 0) = true) : Mak 102 #[.string t] (.tuple #[.string ⟨#[]⟩, .string ⟨#[]⟩, .int .i64 5]) := by
  intro w
  have HS := Lib.hid (Since.refl w)
  go_enter Tryd.func102, Tryd.ntmps102
  go_wp2_with fail
  refine (c1.calls0) ?_
  intro w1 h1
  replace HS := Lib.hid (HS.out.step (by first | exact h1 | exact (Since.alloc (Since.refl _) _).step h1 | exact (Since.alloc (Since.alloc (Since.refl _) _) _).step h1 | exact (Since.drew (Since.refl _)).step h1 | exact (Since.alloc (Since.alloc (Since.alloc (Since.refl _) _) _) _).step h1))
  clear h1
  go_wp2_with fail
  go_ret3
  exact ⟨rfl, HS.out⟩
set_option maxRecDepth 100000 in
theorem sel_ok (t S : ByteArray) (c1 : Mak 117 #[.string t] (.tuple #[.string S, .bool true])) (hs : S.size ≤ 1000000) (h32 : 32 ≤ S.size) (h16 : S.size % 16 = 0) : Mak 102 #[.string t] (.tuple #[.string (S.extract 0 (S.size - 16)), .string (S.extract (S.size - 16) S.size), .int .i64 0]) := by
  intro w
  have HS := Lib.hid (Since.refl w)
  have h : decide ((S.size : Int) < 32) = false := decide_eq_false (by omega)
  have h2 : ((S.size : Int) % 16 != 0) = false := bne_eq_false_iff_eq.2 (by omega)
  have h3 : ((S.size : Int).tmod 16 != 0) = false := bne_eq_false_iff_eq.2 (by rw [Int.tmod_eq_emod_of_nonneg (by omega)]; omega)
  obtain ⟨m, hm⟩ : ∃ m : Nat, m = S.size - 16 := ⟨_, rfl⟩
  have e1 : IntKind.i64.wrap ((S.size : Int) - 16) = (m : Int) := by rw [IntWalk.i64_in _ (by omega)]; omega
  have e2 : (S.size : Int) - 16 = (m : Int) := by omega
  have i1 : (0 : Int) ≤ (m : Int) := by omega
  have i2 : (m : Int) ≤ (S.size : Int) := by omega
  rw [← hm]
  clear hm h16
  go_enter Tryd.func102, Tryd.ntmps102
  go_wp2_with fail
  refine (c1.calls0) ?_
  intro w1 h1
  replace HS := Lib.hid (HS.out.step (by first | exact h1 | exact (Since.alloc (Since.refl _) _).step h1 | exact (Since.alloc (Since.alloc (Since.refl _) _) _).step h1 | exact (Since.drew (Since.refl _)).step h1 | exact (Since.alloc (Since.alloc (Since.alloc (Since.refl _) _) _) _).step h1))
  clear h1
  go_wp2_with fail
  go_quiet (fail)
  replace HS := Lib.hid (HS.out.step (belowN _ nq))
  go_wp2_with fail
  go_ret3
  exact ⟨rfl, HS.out⟩
theorem sealed_mak (t : ByteArray) (hm : t.size ≤ 1000000) : Mak 102 #[.string t] (selV t.data.toList) := by
  have c1 := unhex_all t hm
  have hl := unS_le t.data.toList
  have htl : t.data.toList.length = t.size := rfl
  unfold selV selC selT selE
  by_cases hok : okT t.data.toList = true
  · rw [if_pos hok, if_pos hok, if_pos hok]
    unfold okT at hok
    simp only [Bool.and_eq_true, decide_eq_true_eq] at hok
    obtain ⟨⟨h1, h2⟩, h3⟩ := hok
    rw [h1] at c1
    exact sel_ok t _ c1 (by omega) h2 h3
  · rw [if_neg hok, if_neg hok, if_neg hok]
    cases hb : Dig.unB t.data.toList with
    | false => rw [hb] at c1; exact sel_b1 t _ c1
    | true =>
      rw [hb] at c1
      by_cases h2 : (Dig.unS t.data.toList).size < 32
      · exact sel_b2 t _ c1 (decide_eq_true (by omega))
      · have h3 : (Dig.unS t.data.toList).size % 16 ≠ 0 := fun h => hok (by unfold okT; rw [hb, decide_eq_true (by omega), decide_eq_true h]; rfl)
        exact sel_b3 t _ c1 (decide_eq_false (by omega)) (bne_iff_ne.2 (by omega)) (bne_iff_ne.2 (by rw [Int.tmod_eq_emod_of_nonneg (by omega)]; omega))
/-- the header with which a text begins, if it tells the text's length -/
def begE (s : ByteArray) : Int := if s.size = 0 then 3 else if 9999 < s.size then 4 else if Header.decE s ≠ 0 then Header.decE s else if Dig.numD (s.extract 1 5).data.toList ≠ s.size then 5 else 0
def begV (s : ByteArray) : Array Value := if begE s = 0 then Header.decV s else Z7
set_option maxRecDepth 100000 in
theorem beg_early (s : ByteArray) (E : Int) (h : (s.size = 0 ∧ E = 3) ∨ (9999 < s.size ∧ E = 4)) : KMk KH 99 #[.string s] (.tuple #[.agg Z7, .int .i64 E]) := by
  intro w hT
  have HB := Lib.hid (heap_alloc_new w (.cells Z7 138))
  unfold Z7 at HB
  rcases h with ⟨h, rfl⟩ | ⟨h, rfl⟩
  · obtain rfl : s = ⟨#[]⟩ := by apply ba_ext; exact List.length_eq_zero_iff.1 h
    clear h
    go_enter Tryd.func99, Tryd.ntmps99
    go_wp2_with (refine wpList_store_row rfl 138 _ _ rfl w.heap.size (C7 0 0 ⟨#[]⟩ ⟨#[]⟩ ⟨#[]⟩ ⟨#[]⟩ ⟨#[]⟩) (by rfl) (by rfl) _ _ HB.out (c7_info _ _ _ _ _ _ _) rfl (c7_one _ _ _ _ _ _ _) ?_)
    exact bodyPost_ret (v := .tuple #[.agg Z7, .int .i64 3]) (results_cell_tmp2 Tryd.results99 _ _ _ _ _ _ _ _ rfl rfl (setRow_heap _ _ _ _ _ _ HB.out) Tryd.underlying138 rfl (c7_info _ _ _ _ _ _ _)) rfl ⟨rfl, below_setRow ((Since.refl w).alloc _) (Nat.le_refl _) _⟩
  · have b1 := some_bytes s (by omega)
    have b2 := some_bytes_f s (by omega)
    have t1 : decide ((9999 : Int) < (s.size : Int)) = true := decide_eq_true (by omega)
    clear h
    go_enter Tryd.func99, Tryd.ntmps99
    go_wp2_with (refine wpList_store_row rfl 138 _ _ rfl w.heap.size (C7 0 0 ⟨#[]⟩ ⟨#[]⟩ ⟨#[]⟩ ⟨#[]⟩ ⟨#[]⟩) (by rfl) (by rfl) _ _ HB.out (c7_info _ _ _ _ _ _ _) rfl (c7_one _ _ _ _ _ _ _) ?_)
    exact bodyPost_ret (v := .tuple #[.agg Z7, .int .i64 4]) (results_cell_tmp2 Tryd.results99 _ _ _ _ _ _ _ _ rfl rfl (setRow_heap _ _ _ _ _ _ HB.out) Tryd.underlying138 rfl (c7_info _ _ _ _ _ _ _)) rfl ⟨rfl, below_setRow ((Since.refl w).alloc _) (Nat.le_refl _) _⟩
theorem lt_alloc (w : World) (o : Obj) : w.heap.size < (w.alloc o).heap.size := by simp
set_option maxRecDepth 100000 in
theorem beg_err (s : ByteArray) (h0 : 0 < s.size) (h9 : s.size ≤ 9999) (n k E : Int) (l u m v e : ByteArray) (hE : (E == 0) = false) (c1 : KMk KH 113 #[.string s] (.tuple #[.agg #[.int .i64 n, .string l, .int .i64 k, .string u, .string m, .string v, .string e], .int .i64 E])) : KMk KH 99 #[.string s] (.tuple #[.agg (C7 n k l u m v e), .int .i64 E]) := by
  intro w hT
  have hr : Hid (HR w w.heap.size Z7 138 (w.alloc (.cells Z7 138))) := Lib.hid ⟨heap_alloc_new w _⟩
  have HS : Hid (Since w (w.alloc (.cells Z7 138))) := Lib.hid ((Since.refl w).alloc _)
  have HT : Hid (KH (w.alloc (.cells Z7 138))) := Lib.hid (Kp.keep hT ((Below.refl _ w).alloc (Nat.le_refl _) _))
  unfold Z7 at hr HS HT
  have b1 := some_bytes s (by omega)
  have b2 := some_bytes_f s (by omega)
  have t1 : decide ((9999 : Int) < (s.size : Int)) = false := decide_eq_false (by omega)
  clear hT
  go_enter Tryd.func99, Tryd.ntmps99
  go_wp2_with fail
  refine (c1.calls0 HT.out) ?_
  intro w1 h1
  replace hr := Lib.hid (hr.out.step (by first | exact h1 | exact (Since.alloc (Since.refl _) _).step h1 | exact (Since.alloc (Since.alloc (Since.refl _) _) _).step h1 | exact (Since.drew (Since.refl _)).step h1 | exact (Since.alloc (Since.alloc (Since.alloc (Since.refl _) _) _) _).step h1))
  replace HS := Lib.hid (HS.out.step (by first | exact h1 | exact (Since.alloc (Since.refl _) _).step h1 | exact (Since.alloc (Since.alloc (Since.refl _) _) _).step h1 | exact (Since.drew (Since.refl _)).step h1 | exact (Since.alloc (Since.alloc (Since.alloc (Since.refl _) _) _) _).step h1))
  clear h1
  have hr2 : Hid (HR w w.heap.size #[.int .i64 0, .string ⟨#[]⟩, .int .i64 0, .string ⟨#[]⟩, .string ⟨#[]⟩, .string ⟨#[]⟩, .string ⟨#[]⟩] 138 (w1.alloc (.cells #[.int .i64 n, .string l, .int .i64 k, .string u, .string m, .string v, .string e] 138))) := Lib.hid (hr_old hr.out _)
  have HS2 := Lib.hid (HS.out.alloc (.cells #[.int .i64 n, .string l, .int .i64 k, .string u, .string m, .string v, .string e] 138))
  clear hr HS HT
  go_wp2_with (refine wpList_store_row rfl 138 _ _ rfl w.heap.size (C7 n k l u m v e) (by rfl) (by rfl) _ _ hr2.out.row (c7_info _ _ _ _ _ _ _) rfl (c7_one _ _ _ _ _ _ _) ?_)
  exact bodyPost_ret (v := .tuple #[.agg (C7 n k l u m v e), .int .i64 E]) (results_cell_tmp2 Tryd.results99 _ _ _ _ _ _ _ _ rfl rfl (setRow_heap _ _ _ _ _ _ hr2.out.row) Tryd.underlying138 rfl (c7_info _ _ _ _ _ _ _)) rfl ⟨rfl, below_setRow HS2.out (Nat.le_refl _) _⟩
set_option maxRecDepth 100000 in
theorem beg_len (s : ByteArray) (h0 : 0 < s.size) (h9 : s.size ≤ 9999) (n k _E : Int) (l u m v e : ByteArray) (hE : (n == (s.size : Int)) = false) (c1 : KMk KH 113 #[.string s] (.tuple #[.agg #[.int .i64 n, .string l, .int .i64 k, .string u, .string m, .string v, .string e], .int .i64 0])) : KMk KH 99 #[.string s] (.tuple #[.agg (C7 0 0 ⟨#[]⟩ ⟨#[]⟩ ⟨#[]⟩ ⟨#[]⟩ ⟨#[]⟩), .int .i64 5]) := by
  intro w hT
  have hr : Hid (HR w w.heap.size Z7 138 (w.alloc (.cells Z7 138))) := Lib.hid ⟨heap_alloc_new w _⟩
  have HS : Hid (Since w (w.alloc (.cells Z7 138))) := Lib.hid ((Since.refl w).alloc _)
  have HT : Hid (KH (w.alloc (.cells Z7 138))) := Lib.hid (Kp.keep hT ((Below.refl _ w).alloc (Nat.le_refl _) _))
  unfold Z7 at hr HS HT
  have b1 := some_bytes s (by omega)
  have b2 := some_bytes_f s (by omega)
  have t1 : decide ((9999 : Int) < (s.size : Int)) = false := decide_eq_false (by omega)
  clear hT
  go_enter Tryd.func99, Tryd.ntmps99
  go_wp2_with fail
  refine (c1.calls0 HT.out) ?_
  intro w1 h1
  replace hr := Lib.hid (hr.out.step (by first | exact h1 | exact (Since.alloc (Since.refl _) _).step h1 | exact (Since.alloc (Since.alloc (Since.refl _) _) _).step h1 | exact (Since.drew (Since.refl _)).step h1 | exact (Since.alloc (Since.alloc (Since.alloc (Since.refl _) _) _) _).step h1))
  replace HS := Lib.hid (HS.out.step (by first | exact h1 | exact (Since.alloc (Since.refl _) _).step h1 | exact (Since.alloc (Since.alloc (Since.refl _) _) _).step h1 | exact (Since.drew (Since.refl _)).step h1 | exact (Since.alloc (Since.alloc (Since.alloc (Since.refl _) _) _) _).step h1))
  clear h1
  have hr2 : Hid (HR w w.heap.size #[.int .i64 0, .string ⟨#[]⟩, .int .i64 0, .string ⟨#[]⟩, .string ⟨#[]⟩, .string ⟨#[]⟩, .string ⟨#[]⟩] 138 (w1.alloc (.cells #[.int .i64 n, .string l, .int .i64 k, .string u, .string m, .string v, .string e] 138))) := Lib.hid (hr_old hr.out _)
  have HS2 := Lib.hid (HS.out.alloc (.cells #[.int .i64 n, .string l, .int .i64 k, .string u, .string m, .string v, .string e] 138))
  clear hr HS HT
  go_wp2_with (refine wpList_store_row rfl 138 _ _ rfl w.heap.size (C7 0 0 ⟨#[]⟩ ⟨#[]⟩ ⟨#[]⟩ ⟨#[]⟩ ⟨#[]⟩) (by rfl) (by rfl) _ _ hr2.out.row (c7_info _ _ _ _ _ _ _) rfl (c7_one _ _ _ _ _ _ _) ?_)
  exact bodyPost_ret (v := .tuple #[.agg (C7 0 0 ⟨#[]⟩ ⟨#[]⟩ ⟨#[]⟩ ⟨#[]⟩ ⟨#[]⟩), .int .i64 5]) (results_cell_tmp2 Tryd.results99 _ _ _ _ _ _ _ _ rfl rfl (setRow_heap _ _ _ _ _ _ hr2.out.row) Tryd.underlying138 rfl (c7_info _ _ _ _ _ _ _)) rfl ⟨rfl, below_setRow HS2.out (Nat.le_refl _) _⟩
set_option maxRecDepth 100000 in
theorem beg_ok (s : ByteArray) (h0 : 0 < s.size) (h9 : s.size ≤ 9999) (n k _E : Int) (l u m v e : ByteArray) (hE : (n == (s.size : Int)) = true) (c1 : KMk KH 113 #[.string s] (.tuple #[.agg #[.int .i64 n, .string l, .int .i64 k, .string u, .string m, .string v, .string e], .int .i64 0])) : KMk KH 99 #[.string s] (.tuple #[.agg (C7 n k l u m v e), .int .i64 0]) := by
  intro w hT
  have hr : Hid (HR w w.heap.size Z7 138 (w.alloc (.cells Z7 138))) := Lib.hid ⟨heap_alloc_new w _⟩
  have HS : Hid (Since w (w.alloc (.cells Z7 138))) := Lib.hid ((Since.refl w).alloc _)
  have HT : Hid (KH (w.alloc (.cells Z7 138))) := Lib.hid (Kp.keep hT ((Below.refl _ w).alloc (Nat.le_refl _) _))
  unfold Z7 at hr HS HT
  have b1 := some_bytes s (by omega)
  have b2 := some_bytes_f s (by omega)
  have t1 : decide ((9999 : Int) < (s.size : Int)) = false := decide_eq_false (by omega)
  clear hT
  go_enter Tryd.func99, Tryd.ntmps99
  go_wp2_with fail
  refine (c1.calls0 HT.out) ?_
  intro w1 h1
  replace hr := Lib.hid (hr.out.step (by first | exact h1 | exact (Since.alloc (Since.refl _) _).step h1 | exact (Since.alloc (Since.alloc (Since.refl _) _) _).step h1 | exact (Since.drew (Since.refl _)).step h1 | exact (Since.alloc (Since.alloc (Since.alloc (Since.refl _) _) _) _).step h1))
  replace HS := Lib.hid (HS.out.step (by first | exact h1 | exact (Since.alloc (Since.refl _) _).step h1 | exact (Since.alloc (Since.alloc (Since.refl _) _) _).step h1 | exact (Since.drew (Since.refl _)).step h1 | exact (Since.alloc (Since.alloc (Since.alloc (Since.refl _) _) _) _).step h1))
  clear h1
  have hr2 : Hid (HR w w.heap.size #[.int .i64 0, .string ⟨#[]⟩, .int .i64 0, .string ⟨#[]⟩, .string ⟨#[]⟩, .string ⟨#[]⟩, .string ⟨#[]⟩] 138 (w1.alloc (.cells #[.int .i64 n, .string l, .int .i64 k, .string u, .string m, .string v, .string e] 138))) := Lib.hid (hr_old hr.out _)
  have HS2 := Lib.hid (HS.out.alloc (.cells #[.int .i64 n, .string l, .int .i64 k, .string u, .string m, .string v, .string e] 138))
  clear hr HS HT
  go_wp2_with (refine wpList_store_row rfl 138 _ _ rfl w.heap.size (C7 n k l u m v e) (by rfl) (by rfl) _ _ hr2.out.row (c7_info _ _ _ _ _ _ _) rfl (c7_one _ _ _ _ _ _ _) ?_)
  exact bodyPost_ret (v := .tuple #[.agg (C7 n k l u m v e), .int .i64 0]) (results_cell_tmp2 Tryd.results99 _ _ _ _ _ _ _ _ rfl rfl (setRow_heap _ _ _ _ _ _ hr2.out.row) Tryd.underlying138 rfl (c7_info _ _ _ _ _ _ _)) rfl ⟨rfl, below_setRow HS2.out (Nat.le_refl _) _⟩
theorem begin_k (s : ByteArray) (hm : s.size ≤ 1000000) : KMk KH 99 #[.string s] (.tuple #[.agg (begV s), .int .i64 (begE s)]) := by
  unfold begV
  by_cases h0 : s.size = 0
  · have e : begE s = 3 := if_pos h0
    rw [e, if_neg (by decide)]
    exact beg_early s 3 (Or.inl ⟨h0, rfl⟩)
  by_cases h9 : 9999 < s.size
  · have e : begE s = 4 := by unfold begE; rw [if_neg h0, if_pos h9]
    rw [e, if_neg (by decide)]
    exact beg_early s 4 (Or.inr ⟨h9, rfl⟩)
  have c1 := dec_any s hm
  rcases dec_cases s with ⟨hE, hV⟩ | ⟨hE, hF, hk⟩
  · have e : begE s = Header.decE s := by unfold begE; rw [if_neg h0, if_neg h9, if_pos hE]
    rw [e, if_neg hE]
    rw [hV] at c1
    exact beg_err s (by omega) (by omega) 0 0 _ _ _ _ _ _ (beq_eq_false_iff_ne.2 hE) c1
  · have hv : Header.decV s = C7 (Dig.numD (s.extract 1 5).data.toList : Int) (Dig.numD (s.extract 12 14).data.toList : Int) (s.extract 7 8) (s.extract 5 7) (s.extract 8 9) (s.extract 9 11) (s.extract 11 12) := if_pos ⟨hF, hk⟩
    rw [hv, hE] at c1
    by_cases hn : Dig.numD (s.extract 1 5).data.toList = s.size
    · have e : begE s = 0 := by unfold begE; rw [if_neg h0, if_neg h9, if_neg (fun h => h hE), if_neg (fun h => h hn)]
      rw [e, if_pos rfl, hv]
      exact beg_ok s (by omega) (by omega) _ _ 0 _ _ _ _ _ (by rw [hn]; exact beq_self_eq_true _) c1
    · have e : begE s = 5 := by unfold begE; rw [if_neg h0, if_neg h9, if_neg (fun h => h hE), if_pos hn]
      rw [e, if_neg (by decide)]
      exact beg_len s (by omega) (by omega) _ _ 0 _ _ _ _ _ (beq_eq_false_iff_ne.2 (by omega)) c1
end Frame
end Go.Proofs.YtgfdomdbjiflmaaDoor
