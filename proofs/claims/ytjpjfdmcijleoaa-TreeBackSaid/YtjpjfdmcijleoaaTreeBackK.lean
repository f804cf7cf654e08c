/- The law TreeBack: what is written is read as it was; what is read may be, and is written so again; no conditions. -/
import Derived.Test.YtjpjfdmcijleoaaRows
import Derived.WalkKit
import Derived.ProofKit
import Derived.OpenShut
import Derived.Lib.Hide
import Derived.Lib.SmallJoins
import Derived.Test.YtjpjfdmcijleoaaTr37
namespace Go.Proofs.Ytjpjfdmcijleoaa.treeBack
open Go.ChangeShapes Go.WideShapes Go.ChangeAt Go.RowKit Tlv Tree
def DecT (s : ByteArray) (C P : Int) (N : List Nd) : Prop := ∀ w, Calls Try.prog 18 #[.string s] w fun e w' => ∃ tv, e = .returned (.tuple #[tv, .agg #[.int .i64 C, .int .i64 P]]) ∧ TreeS w' tv N ∧ Since w w'
set_option maxRecDepth 100000 in
theorem core_no (N : List Nd) (s : ByteArray) (w : World) (v : Value) (hT : TreeS w v N) (c0 : RdT 6 N (fun v => #[v, .int .i64 60]) (.bool false)) : Calls Try.prog 4 #[v, .string s] w fun e w' => e = .returned (.bool true) ∧ Since w w' := by
  have HS := Lib.hid (Since.refl w)
  have HT := Lib.hid hT
  clear hT
  go_enter Try.func4, Try.ntmps4
  go_wp2_with fail
  refine c0.calls0 HT.out ?_
  intro w1 h1
  replace HS := Lib.hid (HS.out.step h1)
  replace HT := Lib.hid (HT.out.since h1)
  clear h1
  go_wp2_with fail
  refine awake_mak.calls0 ?_
  intro w2 h2
  replace HS := Lib.hid (HS.out.step h2)
  replace HT := Lib.hid (HT.out.since h2)
  clear h2
  go_wp2_with fail
  go_ret
  exact ⟨rfl, HS.out⟩
set_option maxRecDepth 100000 in
theorem core_big (N : List Nd) (s : ByteArray) (hs : 500 < s.size) (w : World) (v : Value) (hT : TreeS w v N) (c0 : RdT 6 N (fun v => #[v, .int .i64 60]) (.bool true)) : Calls Try.prog 4 #[v, .string s] w fun e w' => e = .returned (.bool true) ∧ Since w w' := by
  have HS := Lib.hid (Since.refl w)
  have HT := Lib.hid hT
  have t1 : decide ((500 : Int) < (s.size : Int)) = true := decide_eq_true (by omega)
  clear hT hs
  go_enter Try.func4, Try.ntmps4
  go_wp2_with fail
  refine c0.calls0 HT.out ?_
  intro w1 h1
  replace HS := Lib.hid (HS.out.step h1)
  replace HT := Lib.hid (HT.out.since h1)
  clear h1
  go_wp2_with fail
  refine awake_mak.calls0 ?_
  intro w2 h2
  replace HS := Lib.hid (HS.out.step h2)
  replace HT := Lib.hid (HT.out.since h2)
  clear h2
  go_wp2_with fail
  go_ret
  exact ⟨rfl, HS.out⟩
set_option maxRecDepth 100000 in
set_option maxHeartbeats 4000000 in
theorem core_00 (N : List Nd) (s : ByteArray) (hs : s.size ≤ 500) (w : World) (v : Value) (hT : TreeS w v N) (c0 : RdT 6 N (fun v => #[v, .int .i64 60]) (.bool true)) (X : ByteArray) (E : Int) (c1 : RdT 8 N (fun v => #[v]) (.tuple #[.string X, .int .i64 E])) (N2 : List Nd) (C P : Int) (d3 : DecT s C P N2) (hE : (E == 0) = false) (hC : (C != 0) = true) : Calls Try.prog 4 #[v, .string s] w fun e w' => e = .returned (.bool true) ∧ Since w w' := by
  have HS := Lib.hid (Since.refl w)
  have HT := Lib.hid hT
  have t1 : decide ((500 : Int) < (s.size : Int)) = false := decide_eq_false (by omega)
  clear hT hs
  go_enter Try.func4, Try.ntmps4
  go_wp2_with fail
  refine c0.calls0 HT.out ?_
  intro w1 h1
  replace HS := Lib.hid (HS.out.step h1)
  replace HT := Lib.hid (HT.out.since h1)
  clear h1
  go_wp2_with fail
  refine c1.calls0 HT.out ?_
  intro w2 h2
  replace HS := Lib.hid (HS.out.step h2)
  replace HT := Lib.hid (HT.out.since h2)
  clear h2
  go_wp2_with fail
  refine (d3 _).mono ?_
  rintro _ w6 ⟨u6, rfl, hU, h6⟩
  replace HS := Lib.hid (HS.out.step h6)
  have r1 : (w6.alloc (.cells #[.int .i64 0, .int .i64 0] 34)).heap[w6.heap.size]? = some (.cells #[.int .i64 0, .int .i64 0] 34 (0, 0)) := heap_alloc_new w6 _
  have hb := Lib.hid (hb_row (K := KT) (C' := #[.int .i64 C, .int .i64 P]) ((Since.refl w6).alloc _) (Nat.le_refl _) trivial r1)
  have y0 := hb.out.cell 0 _ rfl
  have y1 := hb.out.cell 1 _ rfl
  replace HS := Lib.hid (HS.out.step hb.out.since)
  have HU := Lib.hid (hU.since hb.out.since)
  clear hU h6
  go_wp2_with (refine wpList_store_row rfl 34 _ _ rfl w6.heap.size #[.int .i64 C, .int .i64 P] (by rfl) (by rfl) _ _ r1 (f2_info C P) rfl (f2_one C P) ?_)
  clear y0 y1 r1 hb
  refine awake_mak.calls0 ?_
  intro w7 h7
  replace HS := Lib.hid (HS.out.step h7)
  replace HU := Lib.hid (HU.out.since h7)
  clear h7
  go_wp2_with fail
  go_ret
  exact ⟨rfl, HS.out⟩
set_option maxRecDepth 100000 in
set_option maxHeartbeats 4000000 in
theorem core_10 (N : List Nd) (s : ByteArray) (hs : s.size ≤ 500) (w : World) (v : Value) (hT : TreeS w v N) (c0 : RdT 6 N (fun v => #[v, .int .i64 60]) (.bool true)) (X : ByteArray) (E : Int) (c1 : RdT 8 N (fun v => #[v]) (.tuple #[.string X, .int .i64 E])) (N2 : List Nd) (C P : Int) (d3 : DecT s C P N2) (hE : (E == 0) = true) (hC : (C != 0) = true) (C0 P0 : Int) (hC0 : (C0 != 0) = false) (d1 : DecT X C0 P0 N) (d2 : SameT N) (c2 : RdT 12 N (fun v => #[v]) (.int .i64 (X.size : Int))) (_b1 : ((X.size : Int) != (X.size : Int)) = false) : Calls Try.prog 4 #[v, .string s] w fun e w' => e = .returned (.bool true) ∧ Since w w' := by
  have HS := Lib.hid (Since.refl w)
  have HT := Lib.hid hT
  have t1 : decide ((500 : Int) < (s.size : Int)) = false := decide_eq_false (by omega)
  clear hT hs
  go_enter Try.func4, Try.ntmps4
  go_wp2_with fail
  refine c0.calls0 HT.out ?_
  intro w1 h1
  replace HS := Lib.hid (HS.out.step h1)
  replace HT := Lib.hid (HT.out.since h1)
  clear h1
  go_wp2_with fail
  refine c1.calls0 HT.out ?_
  intro w2 h2
  replace HS := Lib.hid (HS.out.step h2)
  replace HT := Lib.hid (HT.out.since h2)
  clear h2
  go_wp2_with fail
  refine (d1 _).mono ?_
  rintro _ w3 ⟨u3, rfl, hU, h3⟩
  replace HS := Lib.hid (HS.out.step h3)
  have r1 : (w3.alloc (.cells #[.int .i64 0, .int .i64 0] 34)).heap[w3.heap.size]? = some (.cells #[.int .i64 0, .int .i64 0] 34 (0, 0)) := heap_alloc_new w3 _
  have hb := Lib.hid (hb_row (K := KT) (C' := #[.int .i64 C0, .int .i64 P0]) ((Since.refl w3).alloc _) (Nat.le_refl _) trivial r1)
  have y0 := hb.out.cell 0 _ rfl
  have y1 := hb.out.cell 1 _ rfl
  replace HS := Lib.hid (HS.out.step hb.out.since)
  replace HT := Lib.hid ((HT.out.since h3).since hb.out.since)
  have HU := Lib.hid (hU.since hb.out.since)
  clear hU h3
  go_wp2_with (refine wpList_store_row rfl 34 _ _ rfl w3.heap.size #[.int .i64 C0, .int .i64 P0] (by rfl) (by rfl) _ _ r1 (f2_info C0 P0) rfl (f2_one C0 P0) ?_)
  refine (d2 _ _ _ HT.out HU.out).mono ?_
  rintro _ w4 ⟨rfl, h4⟩
  clear y0 y1 r1 hb HU
  replace HS := Lib.hid (HS.out.step h4)
  replace HT := Lib.hid (HT.out.since h4)
  clear h4
  go_wp2_with fail
  refine c2.calls0 HT.out ?_
  intro w5 h5
  replace HS := Lib.hid (HS.out.step h5)
  replace HT := Lib.hid (HT.out.since h5)
  clear h5
  go_wp2_with fail
  refine (d3 _).mono ?_
  rintro _ w6 ⟨u6, rfl, hU, h6⟩
  replace HS := Lib.hid (HS.out.step h6)
  have r1 : (w6.alloc (.cells #[.int .i64 0, .int .i64 0] 34)).heap[w6.heap.size]? = some (.cells #[.int .i64 0, .int .i64 0] 34 (0, 0)) := heap_alloc_new w6 _
  have hb := Lib.hid (hb_row (K := KT) (C' := #[.int .i64 C, .int .i64 P]) ((Since.refl w6).alloc _) (Nat.le_refl _) trivial r1)
  have y0 := hb.out.cell 0 _ rfl
  have y1 := hb.out.cell 1 _ rfl
  replace HS := Lib.hid (HS.out.step hb.out.since)
  have HU := Lib.hid (hU.since hb.out.since)
  clear hU h6
  go_wp2_with (refine wpList_store_row rfl 34 _ _ rfl w6.heap.size #[.int .i64 C, .int .i64 P] (by rfl) (by rfl) _ _ r1 (f2_info C P) rfl (f2_one C P) ?_)
  clear y0 y1 r1 hb
  refine awake_mak.calls0 ?_
  intro w7 h7
  replace HS := Lib.hid (HS.out.step h7)
  replace HU := Lib.hid (HU.out.since h7)
  clear h7
  go_wp2_with fail
  go_ret
  exact ⟨rfl, HS.out⟩
set_option maxRecDepth 100000 in
set_option maxHeartbeats 4000000 in
theorem core_01 (N : List Nd) (s : ByteArray) (hs : s.size ≤ 500) (w : World) (v : Value) (hT : TreeS w v N) (c0 : RdT 6 N (fun v => #[v, .int .i64 60]) (.bool true)) (X : ByteArray) (E : Int) (c1 : RdT 8 N (fun v => #[v]) (.tuple #[.string X, .int .i64 E])) (N2 : List Nd) (C P : Int) (d3 : DecT s C P N2) (hE : (E == 0) = false) (hC : (C != 0) = false) (E2 : Int) (hE2 : (E2 == 0) = true) (c3 : RdT 8 N2 (fun v => #[v]) (.tuple #[.string s, .int .i64 E2])) (c4 : RdT 10 N2 (fun v => #[v]) (.bool true)) (D : Int) (hD : decide (D ≤ 16) = true) (c5 : RdT 13 N2 (fun v => #[v]) (.int .i64 D)) (_b2 : (s.toList == s.toList) = true) : Calls Try.prog 4 #[v, .string s] w fun e w' => e = .returned (.bool true) ∧ Since w w' := by
  have HS := Lib.hid (Since.refl w)
  have HT := Lib.hid hT
  have t1 : decide ((500 : Int) < (s.size : Int)) = false := decide_eq_false (by omega)
  clear hT hs
  go_enter Try.func4, Try.ntmps4
  go_wp2_with fail
  refine c0.calls0 HT.out ?_
  intro w1 h1
  replace HS := Lib.hid (HS.out.step h1)
  replace HT := Lib.hid (HT.out.since h1)
  clear h1
  go_wp2_with fail
  refine c1.calls0 HT.out ?_
  intro w2 h2
  replace HS := Lib.hid (HS.out.step h2)
  replace HT := Lib.hid (HT.out.since h2)
  clear h2
  go_wp2_with fail
  refine (d3 _).mono ?_
  rintro _ w6 ⟨u6, rfl, hU, h6⟩
  replace HS := Lib.hid (HS.out.step h6)
  have r1 : (w6.alloc (.cells #[.int .i64 0, .int .i64 0] 34)).heap[w6.heap.size]? = some (.cells #[.int .i64 0, .int .i64 0] 34 (0, 0)) := heap_alloc_new w6 _
  have hb := Lib.hid (hb_row (K := KT) (C' := #[.int .i64 C, .int .i64 P]) ((Since.refl w6).alloc _) (Nat.le_refl _) trivial r1)
  have y0 := hb.out.cell 0 _ rfl
  have y1 := hb.out.cell 1 _ rfl
  replace HS := Lib.hid (HS.out.step hb.out.since)
  have HU := Lib.hid (hU.since hb.out.since)
  clear hU h6
  go_wp2_with (refine wpList_store_row rfl 34 _ _ rfl w6.heap.size #[.int .i64 C, .int .i64 P] (by rfl) (by rfl) _ _ r1 (f2_info C P) rfl (f2_one C P) ?_)
  clear y0 y1 r1 hb
  refine c3.calls0 HU.out ?_
  intro w7 h7
  replace HS := Lib.hid (HS.out.step h7)
  replace HU := Lib.hid (HU.out.since h7)
  clear h7
  go_wp2_with fail
  refine c4.calls0 HU.out ?_
  intro w8 h8
  replace HS := Lib.hid (HS.out.step h8)
  replace HU := Lib.hid (HU.out.since h8)
  clear h8
  go_wp2_with fail
  refine c5.calls0 HU.out ?_
  intro w9 h9
  replace HS := Lib.hid (HS.out.step h9)
  replace HU := Lib.hid (HU.out.since h9)
  clear h9
  go_wp2_with fail
  refine awake_mak.calls0 ?_
  intro w10 h10
  replace HS := Lib.hid (HS.out.step h10)
  replace HU := Lib.hid (HU.out.since h10)
  clear h10
  go_wp2_with fail
  go_ret
  exact ⟨rfl, HS.out⟩
set_option maxRecDepth 100000 in
set_option maxHeartbeats 4000000 in
theorem core_11 (N : List Nd) (s : ByteArray) (hs : s.size ≤ 500) (w : World) (v : Value) (hT : TreeS w v N) (c0 : RdT 6 N (fun v => #[v, .int .i64 60]) (.bool true)) (X : ByteArray) (E : Int) (c1 : RdT 8 N (fun v => #[v]) (.tuple #[.string X, .int .i64 E])) (N2 : List Nd) (C P : Int) (d3 : DecT s C P N2) (hE : (E == 0) = true) (hC : (C != 0) = false) (C0 P0 : Int) (hC0 : (C0 != 0) = false) (d1 : DecT X C0 P0 N) (d2 : SameT N) (c2 : RdT 12 N (fun v => #[v]) (.int .i64 (X.size : Int))) (_b1 : ((X.size : Int) != (X.size : Int)) = false) (E2 : Int) (hE2 : (E2 == 0) = true) (c3 : RdT 8 N2 (fun v => #[v]) (.tuple #[.string s, .int .i64 E2])) (c4 : RdT 10 N2 (fun v => #[v]) (.bool true)) (D : Int) (hD : decide (D ≤ 16) = true) (c5 : RdT 13 N2 (fun v => #[v]) (.int .i64 D)) (_b2 : (s.toList == s.toList) = true) : Calls Try.prog 4 #[v, .string s] w fun e w' => e = .returned (.bool true) ∧ Since w w' := by
  have HS := Lib.hid (Since.refl w)
  have HT := Lib.hid hT
  have t1 : decide ((500 : Int) < (s.size : Int)) = false := decide_eq_false (by omega)
  clear hT hs
  go_enter Try.func4, Try.ntmps4
  go_wp2_with fail
  refine c0.calls0 HT.out ?_
  intro w1 h1
  replace HS := Lib.hid (HS.out.step h1)
  replace HT := Lib.hid (HT.out.since h1)
  clear h1
  go_wp2_with fail
  refine c1.calls0 HT.out ?_
  intro w2 h2
  replace HS := Lib.hid (HS.out.step h2)
  replace HT := Lib.hid (HT.out.since h2)
  clear h2
  go_wp2_with fail
  refine (d1 _).mono ?_
  rintro _ w3 ⟨u3, rfl, hU, h3⟩
  replace HS := Lib.hid (HS.out.step h3)
  have r1 : (w3.alloc (.cells #[.int .i64 0, .int .i64 0] 34)).heap[w3.heap.size]? = some (.cells #[.int .i64 0, .int .i64 0] 34 (0, 0)) := heap_alloc_new w3 _
  have hb := Lib.hid (hb_row (K := KT) (C' := #[.int .i64 C0, .int .i64 P0]) ((Since.refl w3).alloc _) (Nat.le_refl _) trivial r1)
  have y0 := hb.out.cell 0 _ rfl
  have y1 := hb.out.cell 1 _ rfl
  replace HS := Lib.hid (HS.out.step hb.out.since)
  replace HT := Lib.hid ((HT.out.since h3).since hb.out.since)
  have HU := Lib.hid (hU.since hb.out.since)
  clear hU h3
  go_wp2_with (refine wpList_store_row rfl 34 _ _ rfl w3.heap.size #[.int .i64 C0, .int .i64 P0] (by rfl) (by rfl) _ _ r1 (f2_info C0 P0) rfl (f2_one C0 P0) ?_)
  refine (d2 _ _ _ HT.out HU.out).mono ?_
  rintro _ w4 ⟨rfl, h4⟩
  clear y0 y1 r1 hb HU
  replace HS := Lib.hid (HS.out.step h4)
  replace HT := Lib.hid (HT.out.since h4)
  clear h4
  go_wp2_with fail
  refine c2.calls0 HT.out ?_
  intro w5 h5
  replace HS := Lib.hid (HS.out.step h5)
  replace HT := Lib.hid (HT.out.since h5)
  clear h5
  go_wp2_with fail
  refine (d3 _).mono ?_
  rintro _ w6 ⟨u6, rfl, hU, h6⟩
  replace HS := Lib.hid (HS.out.step h6)
  have r1 : (w6.alloc (.cells #[.int .i64 0, .int .i64 0] 34)).heap[w6.heap.size]? = some (.cells #[.int .i64 0, .int .i64 0] 34 (0, 0)) := heap_alloc_new w6 _
  have hb := Lib.hid (hb_row (K := KT) (C' := #[.int .i64 C, .int .i64 P]) ((Since.refl w6).alloc _) (Nat.le_refl _) trivial r1)
  have y0 := hb.out.cell 0 _ rfl
  have y1 := hb.out.cell 1 _ rfl
  replace HS := Lib.hid (HS.out.step hb.out.since)
  have HU := Lib.hid (hU.since hb.out.since)
  clear hU h6
  go_wp2_with (refine wpList_store_row rfl 34 _ _ rfl w6.heap.size #[.int .i64 C, .int .i64 P] (by rfl) (by rfl) _ _ r1 (f2_info C P) rfl (f2_one C P) ?_)
  clear y0 y1 r1 hb
  refine c3.calls0 HU.out ?_
  intro w7 h7
  replace HS := Lib.hid (HS.out.step h7)
  replace HU := Lib.hid (HU.out.since h7)
  clear h7
  go_wp2_with fail
  refine c4.calls0 HU.out ?_
  intro w8 h8
  replace HS := Lib.hid (HS.out.step h8)
  replace HU := Lib.hid (HU.out.since h8)
  clear h8
  go_wp2_with fail
  refine c5.calls0 HU.out ?_
  intro w9 h9
  replace HS := Lib.hid (HS.out.step h9)
  replace HU := Lib.hid (HU.out.since h9)
  clear h9
  go_wp2_with fail
  refine awake_mak.calls0 ?_
  intro w10 h10
  replace HS := Lib.hid (HS.out.step h10)
  replace HU := Lib.hid (HU.out.since h10)
  clear h10
  go_wp2_with fail
  go_ret
  exact ⟨rfl, HS.out⟩
theorem dec_of_top {s : ByteArray} {g : F} (hm : s.size ≤ maxLen) (h : top Strs.rightB s = .ok g) : DecT s 0 0 (g.flat 0) := fun w => dec_u s hm 0 0 _ _ (show topV s = (0, 0, g.flat 0, g.spans 0) by unfold topV; rw [h]) w
theorem size_le (g : F) : ∀ (i : Nat), ∀ x ∈ g.flat i, x.d.size ≤ g.enc.length := by
  induction g with
  | nil => intro i x h; cases h
  | prim c t d nx ih =>
    intro i x h
    have hE : (F.prim c t d nx).enc.length = (Head.encL c t false d.size).length + d.data.toList.length + nx.enc.length := by
      show (Head.encL c t false d.size ++ d.data.toList ++ nx.enc).length = _
      rw [List.length_append, List.length_append]
    have hd : d.data.toList.length = d.size := rfl
    rcases List.mem_cons.1 (show x ∈ (⟨c, t, false, d, []⟩ : Nd) :: nx.flat (i + 1) from h) with rfl | h
    · dsimp only; omega
    · have := ih _ x h; omega
  | cons c t ks nx ih1 ih2 =>
    intro i x h
    have hE : (F.cons c t ks nx).enc.length = (Head.encL c t true ks.enc.length).length + ks.enc.length + nx.enc.length := by
      show (Head.encL c t true ks.enc.length ++ ks.enc ++ nx.enc).length = _
      rw [List.length_append, List.length_append]
    rcases List.mem_cons.1 (show x ∈ (⟨c, t, true, ⟨#[]⟩, ks.tops (i + 1)⟩ : Nd) :: (ks.flat (i + 1) ++ nx.flat (i + 1 + ks.cnt)) from h) with rfl | h
    · exact Nat.zero_le _
    · rcases List.mem_append.1 h with h | h
      · have := ih1 _ x h; omega
      · have := ih2 _ x h; omega
set_option maxRecDepth 100000 in
theorem walk (w : World) (A : Option Addr) (n c : Nat) (N : List Nd) (s : ByteArray) (hT : TreeS w (.slice A n c) N) (_hN : n = N.length) (_h : True) (hm : s.size ≤ maxLen) : Calls Try.prog 4 #[.slice A n c, .string s] w fun e w' => e = .returned (.bool true) ∧ Below w.heap.size w w' := by
  have c0 := plain_rd N 60 (by decide) _ rfl
  cases hp : plainT N 60 with
  | false => rw [hp] at c0; exact core_no N s w _ hT c0
  | true =>
    rw [hp] at c0
    by_cases hs : 500 < s.size
    · exact core_big N s hs w _ hT c0
    replace hs : s.size ≤ 500 := by omega
    obtain ⟨hsm, hl, hd, hk⟩ := plain_small (by decide) hp
    obtain ⟨X, E, hX, c1, -⟩ := enc_t N hsm (by omega) hd
    have hfirst : rigB Strs.rightB N = false ∧ E = 1 ∨ (E = 0 ∧ DecT X 0 0 N) := by
      cases hr : rigB Strs.rightB N with
      | false => exact .inl ⟨rfl, (hX.no hr).2⟩
      | true =>
        obtain ⟨g, hg, hx, he⟩ := hX.yes hr
        have hle := enc_le g 0 (by rw [← hg.flat]; exact hd)
        have hc : N.length = g.cnt := by rw [hg.flat, F.flat_len]
        have ht := top_enc hg (by omega)
        refine .inr ⟨he, ?_⟩
        have h9 := dec_of_top (s := bs g.enc) (by rw [size_bs]; unfold maxLen; omega) ht
        rw [hx]
        rw [← hg.flat] at h9
        exact h9
    have c2 := size_rd N X E c1
    have d2 := same_t N (by omega)
    cases ht : top Strs.rightB s with
    | error x =>
      obtain ⟨cc, p⟩ := x
      have hcc := (top_err_ok ht).1
      have d3 : DecT s (cc : Int) (p : Int) [] := fun w => dec_u s hm cc p _ _ (show topV s = (cc, p, [], []) by unfold topV; rw [ht]) w
      have hC : ((cc : Int) != 0) = true := by rw [bne_iff_ne]; omega
      rcases hfirst with ⟨-, rfl⟩ | ⟨rfl, d1⟩
      · exact core_00 N s hs w _ hT c0 X 1 c1 _ _ _ d3 rfl hC
      · exact core_10 N s hs w _ hT c0 X 0 c1 _ _ _ d3 rfl hC 0 0 rfl d1 d2 c2 (bne_self_eq_false _)
    | ok g =>
      obtain ⟨hg, he⟩ := top_is ht
      have d3 := dec_of_top hm ht
      have hel : g.enc.length = s.size := by rw [he]; rfl
      have hsm2 : Small (g.flat 0) := ⟨by have := hg.len; omega, fun x hx => by have := size_le g 0 x hx; omega⟩
      have c4 := rig_rd (g.flat 0) hsm2
      rw [is_right hg] at c4
      have c3 := enc_yes (g.flat 0) _ _ (wr_of hg) (by omega) hsm2 hg.len (fair_of hg).kids c4
      have hbs : bs g.enc = s := by rw [he]; exact bs_list s
      rw [hbs] at c3
      obtain ⟨D, hD, -, c5, -⟩ := dep_t (g.flat 0) hsm2
      have hD2 : decide ((D : Int) ≤ 16) = true := decide_eq_true (by omega)
      rcases hfirst with ⟨-, rfl⟩ | ⟨rfl, d1⟩
      · exact core_01 N s hs w _ hT c0 X 1 c1 _ _ _ d3 rfl rfl 0 rfl c3 c4 _ hD2 c5 (beq_self_eq_true _)
      · exact core_11 N s hs w _ hT c0 X 0 c1 _ _ _ d3 rfl rfl 0 0 rfl d1 d2 c2 (bne_self_eq_false _) 0 rfl c3 c4 _ hD2 c5 (beq_self_eq_true _)

set_option maxRecDepth 100000 in
theorem own : ownKnob Try.prog.godebug = none := by kernel_rfl
set_option maxRecDepth 100000 in
theorem laidOut : laidOutB Try.prog = true := by kernel_rfl

set_option maxRecDepth 100000 in
theorem lifted (os : Os) (started : os.Started) (H : Type) (enc : TypeId × Value → H) :
    ReturnsInHanded {} Try.checked os 4 .any (Rows.treeBackSpec.pre6 enc Try.prog Try.f4 Rows.treeBackRow.domain false) (Rows.treeBackSpec.post enc Try.prog Try.f4 false true false false) := by
  refine returnsInHanded_of_change (C := Try.checked) own started (by kernel_rfl) Try.func4
    (ChangeSpec.witness6 (enc := enc) (C := Try.checked) false ⟨#[], #[.slice none 0 0, .string ⟨#[]⟩], []⟩ 8 (by kernel_rfl) (by kernel_rfl) (by kernel_rfl) (by kernel_rfl)) ?_
  intro W base args ds gs before hval0 hW hcnd _
  have hval : ∀ (j : Nat) t v, Try.f4.params[j]? = some t → args[j]? = some v → Value.okWide Try.prog W .any base t v := hval0
  have hW' := hW
  obtain ⟨p, q, hA0, hV, rfl, hfz, hnd⟩ := hW
  have hA : DataW.TrodAll enc Try.prog W 0 (fun _ => true) true Try.f4.params.toList args.toList ds p := hA0
  rw [Try.params4] at hA hval
  obtain ⟨v0, vs0, d0, ds0, p0, q0, hargs, rfl, rfl, h0, r0⟩ := trodAll_cons hA
  obtain ⟨v1, vs1, d1, ds1, p1, q1, rfl, rfl, rfl, h1, r1⟩ := trodAll_cons r0
  obtain ⟨rfl, rfl, rfl⟩ := trodAll_nil r1
  obtain rfl : args = #[v0, v1] := by cases args; simp_all
  obtain ⟨rfl, rfl⟩ := trodVars_none hV
  obtain ⟨a0, n0, c0, rfl⟩ := okWide_slice Try.underlying23 (hval 0 23 v0 rfl rfl)
  have h0k := h0
  obtain ⟨fuel0, hf0⟩ := h0
  have hlt0 : ∀ x ∈ p0, x.block < W.heap.size := fun x hx => by simpa using hW'.lt x (by simp [hx])
  obtain ⟨x0, lA0, lN0, lX0⟩ := tree_arg hf0 hlt0
  obtain ⟨a1, rfl, rfl, rfl, w1⟩ := Go.ChangeMaps.open_string Try.underlying9 (hval 1 9 v1 rfl rfl) h1
  clear hA0 hval0
  simp only [List.append_nil] at hW'
  refine (walk W a0 n0 c0 x0 a1 lA0 lN0 lX0 w1).mono fun e W' ⟨he, hg⟩ => ?_
  subst he
  exact ⟨_, rfl, _, _, _, _, _, [], hW', (trodAll_cons_mk (shut_bool Try.underlying4 _) trodAll_mk0), (trodAll_cons_mk (Below.trod laidOut (by kernel_rfl) (of_decide_eq_true (by kernel_rfl)) h0k hg hlt0) (trodAll_cons_mk (Go.ChangeMaps.shut_string Try.underlying9 w1) trodAll_mk0)), rfl, hg.frame _, fun h => by cases h⟩

set_option maxRecDepth 100000 in
theorem over : Rows.treeBackRow.holds Try.pinned (OpenSpec.ofChange Rows.treeBackSpec) :=
  OpenClaim.holds_of_wide 4 Try.f4 rfl rfl rfl rfl rfl rfl rfl ⟨rfl, rfl, rfl, rfl, rfl⟩ rfl rfl rfl rfl rfl (by kernel_rfl) Try.func4 (by kernel_rfl)
    (of_decide_eq_true (by kernel_rfl)) (by unfold Func.isWrapper; first | (rw [if_pos (by decide +kernel)]; kernel_rfl) | (rw [if_neg (by decide +kernel)]; exact ⟨rfl, rfl⟩))
    (fun os started H enc _ => lifted os started H enc)

theorem proved : Rows.TreeBackSaid :=
  over

end Go.Proofs.Ytjpjfdmcijleoaa.treeBack
