/- Package round: two steps, and what the package offers. -/
import Derived.Test.YtoblmddnefmpoaaRnd3
namespace Go.Proofs.Ytoblmddnefmpoaa
open Go.RowKit
namespace Rnd

set_option maxRecDepth 100000 in
set_option maxHeartbeats 2000000 in
theorem apply_shmix (s : ByteArray) (hs : s.size = 16) (T U : List UInt8 → List UInt8) (hU : ∀ l, (U l).length = 16) (st : Step 55 T) (su : Step 58 U) (X : ByteArray) (hX : X = bs (U (T s.data.toList))) (w : World) (g : Nat) (hg : w.cell? ⟨g, 0, none⟩ = some (.func (.func 55) #[] #[])) (hg1 : w.cell? ⟨g, 1, none⟩ = some (.func (.func 58) #[] #[])) (hgl : g < w.heap.size) :
    Calls Try.prog 54 #[.string s, .slice (some ⟨g, 0, none⟩) 2 2] w fun e w' => e = .returned (.string X) ∧ Since w w' := by
  have hlen : (s.size : Int) = 16 := by omega
  have HST := Lib.hid st
  have HSU := Lib.hid su
  have HU := Lib.hid hU
  clear st su hU
  have HG0 := Lib.hid hg
  have HG1 := Lib.hid hg1
  clear hg hg1
  have HX := Lib.hid hX
  clear hX
  have Hs := Lib.hid hs
  clear hs
  go_enter Try.func54, Try.ntmps54
  go_wp2_with fail
  refine (read_any s Hs.out _).mono ?_
  rintro e w1 ⟨rfl, h1⟩
  have hsz := Below.size h1
  have H1 := Lib.hid h1
  clear h1
  obtain ⟨C, hC⟩ : ∃ C, stC s.data.toList = C := ⟨_, rfl⟩
  rw [hC]
  have iC : (Try.prog.info? 64).map (·.size) = some C.size := by rw [← hC, stC_size]; exact i64st
  have hCs : C.size = 16 := by rw [← hC, stC_size]
  have hC1 : C.all (·.oneCell') = true := by rw [← hC]; exact stC_one _
  have H_iC := Lib.hid iC
  clear iC
  have HCs := Lib.hid hCs
  clear hCs
  have HC1 := Lib.hid hC1
  clear hC1
  have HC := Lib.hid hC
  clear hC
  go_wp2_with (first | (refine wpList_store_row rfl 64 _ _ rfl w1.heap.size C (by rfl) (by rfl) _ _ (Go.heap_alloc_new _ _) H_iC.out (by rw [HCs.out]; rfl) HC1.out ?_; rw [World.setRow_alloc_new]))
  go_loopw [15] (fun i wr => ∃ (k : Nat) (l : List UInt8), k ≤ 2 ∧ i = .int .i64 (k : Int) ∧ Hid (k = 0 ∧ l = s.data.toList ∨ k = 1 ∧ l = T s.data.toList ∨ k = 2 ∧ l = U (T s.data.toList)) ∧ Hid (wr.heap[w1.heap.size]? = some (.cells (stC l) 64 (0, 0))) ∧ Hid (Since w wr)) (fun i _ => 2 - (intOf i).toNat)
  case atStart => exact ⟨0, s.data.toList, by omega, rfl, Lib.hid (Or.inl ⟨rfl, rfl⟩), Lib.hid (by rw [HC.out]; exact Go.heap_alloc_new _ _), Lib.hid (Since.alloc H1.out _)⟩
  case round =>
    obtain ⟨k, l, hk, rfl, HK, HB, HS⟩ := hrel
    have hkk : k = 0 ∨ k = 1 ∨ k = 2 := by omega
    rcases hkk with rfl | rfl | rfl
    · have hl : l = s.data.toList := by rcases HK.out with ⟨_, h⟩ | ⟨h, _⟩ | ⟨h, _⟩; exact h; cases h; cases h
      subst hl
      have hgr := (HS.out.below.cell (p := ⟨g, 0, none⟩) hgl).trans HG0.out
      have hcs : (stC s.data.toList).size = 16 := stC_size _
      have ic : (Try.prog.info? 64).map (·.size) = some (stC s.data.toList).size := by rw [hcs]; exact i64st
      obtain ⟨E, hE⟩ : ∃ E, stC s.data.toList = E := ⟨_, rfl⟩
      have hb := HB.out
      rw [hE] at hb ic hcs
      have Hb := Lib.hid hb
      clear hb
      have H_ic := Lib.hid ic
      clear ic
      have Hcs := Lib.hid hcs
      clear hcs
      have HE := Lib.hid hE
      clear hE
      go_wp2_with (first | (refine wpList_load_row rfl 64 _ rfl w1.heap.size (by rfl) _ E _ _ Hb.out Try.underlying64 rfl H_ic.out ?_))
      refine Step.calls HST.out HE.out.symm ?_
      intro D w3 hD h3
      have hds : D.size = 16 := by rw [hD, stC_size]
      have hd1 : D.all (·.oneCell') = true := by rw [hD]; exact stC_one _
      have id : (Try.prog.info? 64).map (·.size) = some D.size := by rw [hds]; exact i64st
      have hb3 := (h3.block w1.heap.size (lt_of_heap Hb.out)).trans Hb.out
      have H3 : Hid (Since w w3) := Lib.hid (Since.step HS.out h3)
      clear h3
      have Hds := Lib.hid hds
      clear hds
      have Hd1 := Lib.hid hd1
      clear hd1
      have H_id := Lib.hid id
      clear id
      have Hb3 := Lib.hid hb3
      clear hb3
      have HD := Lib.hid hD
      clear hD
      go_wp2_with (first | (refine wpList_store_row rfl 64 _ _ rfl w1.heap.size D (by rfl) (by rfl) _ _ Hb3.out H_id.out (by rw [Hds.out, Hcs.out]) Hd1.out ?_))
      go_roundw
      case rel => exact ⟨1, T s.data.toList, by omega, rfl, Lib.hid (Or.inr (Or.inl ⟨rfl, rfl⟩)), Lib.hid (by rw [← HD.out]; exact setRow_heap _ _ _ _ _ _ Hb3.out), Lib.hid (below_setRow H3.out hsz _)⟩
      case measure => decide
    · have hl : l = T s.data.toList := by rcases HK.out with ⟨h, _⟩ | ⟨_, h⟩ | ⟨h, _⟩; cases h; exact h; cases h
      subst hl
      have hgr := (HS.out.below.cell (p := ⟨g, 1, none⟩) hgl).trans HG1.out
      have hcs : (stC (T s.data.toList)).size = 16 := stC_size _
      have ic : (Try.prog.info? 64).map (·.size) = some (stC (T s.data.toList)).size := by rw [hcs]; exact i64st
      obtain ⟨E, hE⟩ : ∃ E, stC (T s.data.toList) = E := ⟨_, rfl⟩
      have hb := HB.out
      rw [hE] at hb ic hcs
      have Hb := Lib.hid hb
      clear hb
      have H_ic := Lib.hid ic
      clear ic
      have Hcs := Lib.hid hcs
      clear hcs
      have HE := Lib.hid hE
      clear hE
      go_wp2_with (first | (refine wpList_load_row rfl 64 _ rfl w1.heap.size (by rfl) _ E _ _ Hb.out Try.underlying64 rfl H_ic.out ?_))
      refine Step.calls HSU.out HE.out.symm ?_
      intro D w3 hD h3
      have hds : D.size = 16 := by rw [hD, stC_size]
      have hd1 : D.all (·.oneCell') = true := by rw [hD]; exact stC_one _
      have id : (Try.prog.info? 64).map (·.size) = some D.size := by rw [hds]; exact i64st
      have hb3 := (h3.block w1.heap.size (lt_of_heap Hb.out)).trans Hb.out
      have H3 : Hid (Since w w3) := Lib.hid (Since.step HS.out h3)
      clear h3
      have Hds := Lib.hid hds
      clear hds
      have Hd1 := Lib.hid hd1
      clear hd1
      have H_id := Lib.hid id
      clear id
      have Hb3 := Lib.hid hb3
      clear hb3
      have HD := Lib.hid hD
      clear hD
      go_wp2_with (first | (refine wpList_store_row rfl 64 _ _ rfl w1.heap.size D (by rfl) (by rfl) _ _ Hb3.out H_id.out (by rw [Hds.out, Hcs.out]) Hd1.out ?_))
      go_roundw
      case rel => exact ⟨2, U (T s.data.toList), by omega, rfl, Lib.hid (Or.inr (Or.inr ⟨rfl, rfl⟩)), Lib.hid (by rw [← HD.out]; exact setRow_heap _ _ _ _ _ _ Hb3.out), Lib.hid (below_setRow H3.out hsz _)⟩
      case measure => decide
    · have hl : l = U (T s.data.toList) := by rcases HK.out with ⟨h, _⟩ | ⟨h, _⟩ | ⟨_, h⟩; cases h; cases h; exact h
      subst hl
      have hcs : (stC (U (T s.data.toList))).size = 16 := stC_size _
      have ic : (Try.prog.info? 64).map (·.size) = some (stC (U (T s.data.toList))).size := by rw [hcs]; exact i64st
      obtain ⟨E, hE⟩ : ∃ E, stC (U (T s.data.toList)) = E := ⟨_, rfl⟩
      have hb := HB.out
      rw [hE] at hb ic
      have c9 := text_mak (U (T s.data.toList)) (HU.out _) E hE.symm X HX.out
      have Hb := Lib.hid hb
      clear hb
      have H_ic := Lib.hid ic
      clear ic
      have HE := Lib.hid hE
      clear hE
      have Hcs := Lib.hid hcs
      clear hcs
      go_wp2_with (first | (refine wpList_load_row rfl 64 _ rfl w1.heap.size (by rfl) _ E _ _ Hb.out Try.underlying64 rfl H_ic.out ?_))
      refine (c9).calls HS.out ?_
      intro w9 h9
      have H9 := Lib.hid h9
      clear h9
      go_wp2_with fail
      go_ret
      exact ⟨rfl, H9.out⟩

set_option maxRecDepth 100000 in
set_option maxHeartbeats 2000000 in
theorem apply_unmixsh (s : ByteArray) (hs : s.size = 16) (T U : List UInt8 → List UInt8) (hU : ∀ l, (U l).length = 16) (st : Step 60 T) (su : Step 57 U) (X : ByteArray) (hX : X = bs (U (T s.data.toList))) (w : World) (g : Nat) (hg : w.cell? ⟨g, 0, none⟩ = some (.func (.func 60) #[] #[])) (hg1 : w.cell? ⟨g, 1, none⟩ = some (.func (.func 57) #[] #[])) (hgl : g < w.heap.size) :
    Calls Try.prog 54 #[.string s, .slice (some ⟨g, 0, none⟩) 2 2] w fun e w' => e = .returned (.string X) ∧ Since w w' := by
  have hlen : (s.size : Int) = 16 := by omega
  have HST := Lib.hid st
  have HSU := Lib.hid su
  have HU := Lib.hid hU
  clear st su hU
  have HG0 := Lib.hid hg
  have HG1 := Lib.hid hg1
  clear hg hg1
  have HX := Lib.hid hX
  clear hX
  have Hs := Lib.hid hs
  clear hs
  go_enter Try.func54, Try.ntmps54
  go_wp2_with fail
  refine (read_any s Hs.out _).mono ?_
  rintro e w1 ⟨rfl, h1⟩
  have hsz := Below.size h1
  have H1 := Lib.hid h1
  clear h1
  obtain ⟨C, hC⟩ : ∃ C, stC s.data.toList = C := ⟨_, rfl⟩
  rw [hC]
  have iC : (Try.prog.info? 64).map (·.size) = some C.size := by rw [← hC, stC_size]; exact i64st
  have hCs : C.size = 16 := by rw [← hC, stC_size]
  have hC1 : C.all (·.oneCell') = true := by rw [← hC]; exact stC_one _
  have H_iC := Lib.hid iC
  clear iC
  have HCs := Lib.hid hCs
  clear hCs
  have HC1 := Lib.hid hC1
  clear hC1
  have HC := Lib.hid hC
  clear hC
  go_wp2_with (first | (refine wpList_store_row rfl 64 _ _ rfl w1.heap.size C (by rfl) (by rfl) _ _ (Go.heap_alloc_new _ _) H_iC.out (by rw [HCs.out]; rfl) HC1.out ?_; rw [World.setRow_alloc_new]))
  go_loopw [15] (fun i wr => ∃ (k : Nat) (l : List UInt8), k ≤ 2 ∧ i = .int .i64 (k : Int) ∧ Hid (k = 0 ∧ l = s.data.toList ∨ k = 1 ∧ l = T s.data.toList ∨ k = 2 ∧ l = U (T s.data.toList)) ∧ Hid (wr.heap[w1.heap.size]? = some (.cells (stC l) 64 (0, 0))) ∧ Hid (Since w wr)) (fun i _ => 2 - (intOf i).toNat)
  case atStart => exact ⟨0, s.data.toList, by omega, rfl, Lib.hid (Or.inl ⟨rfl, rfl⟩), Lib.hid (by rw [HC.out]; exact Go.heap_alloc_new _ _), Lib.hid (Since.alloc H1.out _)⟩
  case round =>
    obtain ⟨k, l, hk, rfl, HK, HB, HS⟩ := hrel
    have hkk : k = 0 ∨ k = 1 ∨ k = 2 := by omega
    rcases hkk with rfl | rfl | rfl
    · have hl : l = s.data.toList := by rcases HK.out with ⟨_, h⟩ | ⟨h, _⟩ | ⟨h, _⟩; exact h; cases h; cases h
      subst hl
      have hgr := (HS.out.below.cell (p := ⟨g, 0, none⟩) hgl).trans HG0.out
      have hcs : (stC s.data.toList).size = 16 := stC_size _
      have ic : (Try.prog.info? 64).map (·.size) = some (stC s.data.toList).size := by rw [hcs]; exact i64st
      obtain ⟨E, hE⟩ : ∃ E, stC s.data.toList = E := ⟨_, rfl⟩
      have hb := HB.out
      rw [hE] at hb ic hcs
      have Hb := Lib.hid hb
      clear hb
      have H_ic := Lib.hid ic
      clear ic
      have Hcs := Lib.hid hcs
      clear hcs
      have HE := Lib.hid hE
      clear hE
      go_wp2_with (first | (refine wpList_load_row rfl 64 _ rfl w1.heap.size (by rfl) _ E _ _ Hb.out Try.underlying64 rfl H_ic.out ?_))
      refine Step.calls HST.out HE.out.symm ?_
      intro D w3 hD h3
      have hds : D.size = 16 := by rw [hD, stC_size]
      have hd1 : D.all (·.oneCell') = true := by rw [hD]; exact stC_one _
      have id : (Try.prog.info? 64).map (·.size) = some D.size := by rw [hds]; exact i64st
      have hb3 := (h3.block w1.heap.size (lt_of_heap Hb.out)).trans Hb.out
      have H3 : Hid (Since w w3) := Lib.hid (Since.step HS.out h3)
      clear h3
      have Hds := Lib.hid hds
      clear hds
      have Hd1 := Lib.hid hd1
      clear hd1
      have H_id := Lib.hid id
      clear id
      have Hb3 := Lib.hid hb3
      clear hb3
      have HD := Lib.hid hD
      clear hD
      go_wp2_with (first | (refine wpList_store_row rfl 64 _ _ rfl w1.heap.size D (by rfl) (by rfl) _ _ Hb3.out H_id.out (by rw [Hds.out, Hcs.out]) Hd1.out ?_))
      go_roundw
      case rel => exact ⟨1, T s.data.toList, by omega, rfl, Lib.hid (Or.inr (Or.inl ⟨rfl, rfl⟩)), Lib.hid (by rw [← HD.out]; exact setRow_heap _ _ _ _ _ _ Hb3.out), Lib.hid (below_setRow H3.out hsz _)⟩
      case measure => decide
    · have hl : l = T s.data.toList := by rcases HK.out with ⟨h, _⟩ | ⟨_, h⟩ | ⟨h, _⟩; cases h; exact h; cases h
      subst hl
      have hgr := (HS.out.below.cell (p := ⟨g, 1, none⟩) hgl).trans HG1.out
      have hcs : (stC (T s.data.toList)).size = 16 := stC_size _
      have ic : (Try.prog.info? 64).map (·.size) = some (stC (T s.data.toList)).size := by rw [hcs]; exact i64st
      obtain ⟨E, hE⟩ : ∃ E, stC (T s.data.toList) = E := ⟨_, rfl⟩
      have hb := HB.out
      rw [hE] at hb ic hcs
      have Hb := Lib.hid hb
      clear hb
      have H_ic := Lib.hid ic
      clear ic
      have Hcs := Lib.hid hcs
      clear hcs
      have HE := Lib.hid hE
      clear hE
      go_wp2_with (first | (refine wpList_load_row rfl 64 _ rfl w1.heap.size (by rfl) _ E _ _ Hb.out Try.underlying64 rfl H_ic.out ?_))
      refine Step.calls HSU.out HE.out.symm ?_
      intro D w3 hD h3
      have hds : D.size = 16 := by rw [hD, stC_size]
      have hd1 : D.all (·.oneCell') = true := by rw [hD]; exact stC_one _
      have id : (Try.prog.info? 64).map (·.size) = some D.size := by rw [hds]; exact i64st
      have hb3 := (h3.block w1.heap.size (lt_of_heap Hb.out)).trans Hb.out
      have H3 : Hid (Since w w3) := Lib.hid (Since.step HS.out h3)
      clear h3
      have Hds := Lib.hid hds
      clear hds
      have Hd1 := Lib.hid hd1
      clear hd1
      have H_id := Lib.hid id
      clear id
      have Hb3 := Lib.hid hb3
      clear hb3
      have HD := Lib.hid hD
      clear hD
      go_wp2_with (first | (refine wpList_store_row rfl 64 _ _ rfl w1.heap.size D (by rfl) (by rfl) _ _ Hb3.out H_id.out (by rw [Hds.out, Hcs.out]) Hd1.out ?_))
      go_roundw
      case rel => exact ⟨2, U (T s.data.toList), by omega, rfl, Lib.hid (Or.inr (Or.inr ⟨rfl, rfl⟩)), Lib.hid (by rw [← HD.out]; exact setRow_heap _ _ _ _ _ _ Hb3.out), Lib.hid (below_setRow H3.out hsz _)⟩
      case measure => decide
    · have hl : l = U (T s.data.toList) := by rcases HK.out with ⟨h, _⟩ | ⟨h, _⟩ | ⟨_, h⟩; cases h; cases h; exact h
      subst hl
      have hcs : (stC (U (T s.data.toList))).size = 16 := stC_size _
      have ic : (Try.prog.info? 64).map (·.size) = some (stC (U (T s.data.toList))).size := by rw [hcs]; exact i64st
      obtain ⟨E, hE⟩ : ∃ E, stC (U (T s.data.toList)) = E := ⟨_, rfl⟩
      have hb := HB.out
      rw [hE] at hb ic
      have c9 := text_mak (U (T s.data.toList)) (HU.out _) E hE.symm X HX.out
      have Hb := Lib.hid hb
      clear hb
      have H_ic := Lib.hid ic
      clear ic
      have HE := Lib.hid hE
      clear hE
      have Hcs := Lib.hid hcs
      clear hcs
      go_wp2_with (first | (refine wpList_load_row rfl 64 _ rfl w1.heap.size (by rfl) _ E _ _ Hb.out Try.underlying64 rfl H_ic.out ?_))
      refine (c9).calls HS.out ?_
      intro w9 h9
      have H9 := Lib.hid h9
      clear h9
      go_wp2_with fail
      go_ret
      exact ⟨rfl, H9.out⟩

theorem apply_no (s : ByteArray) (hs : s.size ≠ 16) (hm : s.size ≤ 140737488355328) (v : Value) : Ret 54 #[.string s, v] (.string ⟨#[]⟩) := by
  intro w
  have hb : ((s.size : Int) != 16) = true := by rw [bne_iff_ne]; omega
  clear hs
  go_enter Try.func54, Try.ntmps54
  go_wp2_with fail
  go_ret
  exact ⟨rfl, rfl⟩
theorem new_cell (w : World) (x : Value) (t : TypeId) : (w.alloc (.cells #[x] t)).cell? ⟨w.heap.size, 0, none⟩ = some x := World.cell?_alloc_at (w := w) _ _ _ 0 rfl
theorem new_cell0 (w : World) (x y : Value) (t : TypeId) : (w.alloc (.cells #[x, y] t)).cell? ⟨w.heap.size, 0, none⟩ = some x := World.cell?_alloc_at (w := w) _ _ _ 0 rfl
theorem new_cell1 (w : World) (x y : Value) (t : TypeId) : (w.alloc (.cells #[x, y] t)).cell? ⟨w.heap.size, 1, none⟩ = some y := World.cell?_alloc_at (w := w) _ _ _ 1 rfl

set_option maxHeartbeats 1000000 in
theorem shift_mak (s : ByteArray) (hs : s.size = 16) (X : ByteArray) (hX : X = bs (shiftL s.data.toList)) : Mak 27 #[.string s] (.string X) := by
  intro w
  have HX := Lib.hid hX
  clear hX
  have Hs := Lib.hid hs
  clear hs
  go_enter Try.func27, Try.ntmps27
  go_wp2_with fail
  refine (apply_sh s Hs.out (shiftL) (pickL_len _) shift_st X HX.out _ _ (new_cell _ _ _) (by simp)).mono ?_
  rintro e w1 ⟨rfl, h1⟩
  have H1 := Lib.hid (Since.step (Since.alloc (Since.refl w) _) h1)
  clear h1
  go_wp2_with fail
  go_ret
  exact ⟨rfl, H1.out⟩
set_option maxHeartbeats 1000000 in
theorem shift_mak_no (s : ByteArray) (hs : s.size ≠ 16) (hm : s.size ≤ 140737488355328) : Mak 27 #[.string s] (.string ⟨#[]⟩) := by
  intro w
  have c1 := fun v => apply_no s hs hm v
  clear hs
  go_enter Try.func27, Try.ntmps27
  go_wp2_with fail
  refine (c1 _).calls ?_
  go_wp2_with fail
  go_ret
  exact ⟨rfl, Since.alloc (Since.refl w) _⟩

set_option maxHeartbeats 1000000 in
theorem unshift_mak (s : ByteArray) (hs : s.size = 16) (X : ByteArray) (hX : X = bs (unshiftL s.data.toList)) : Mak 29 #[.string s] (.string X) := by
  intro w
  have HX := Lib.hid hX
  clear hX
  have Hs := Lib.hid hs
  clear hs
  go_enter Try.func29, Try.ntmps29
  go_wp2_with fail
  refine (apply_ush s Hs.out (unshiftL) (pickL_len _) unshift_st X HX.out _ _ (new_cell _ _ _) (by simp)).mono ?_
  rintro e w1 ⟨rfl, h1⟩
  have H1 := Lib.hid (Since.step (Since.alloc (Since.refl w) _) h1)
  clear h1
  go_wp2_with fail
  go_ret
  exact ⟨rfl, H1.out⟩
set_option maxHeartbeats 1000000 in
theorem unshift_mak_no (s : ByteArray) (hs : s.size ≠ 16) (hm : s.size ≤ 140737488355328) : Mak 29 #[.string s] (.string ⟨#[]⟩) := by
  intro w
  have c1 := fun v => apply_no s hs hm v
  clear hs
  go_enter Try.func29, Try.ntmps29
  go_wp2_with fail
  refine (c1 _).calls ?_
  go_wp2_with fail
  go_ret
  exact ⟨rfl, Since.alloc (Since.refl w) _⟩

set_option maxHeartbeats 1000000 in
theorem mix_mak (s : ByteArray) (hs : s.size = 16) (X : ByteArray) (hX : X = bs ((mixL mixF) s.data.toList)) : Mak 31 #[.string s] (.string X) := by
  intro w
  have HX := Lib.hid hX
  clear hX
  have Hs := Lib.hid hs
  clear hs
  go_enter Try.func31, Try.ntmps31
  go_wp2_with fail
  refine (apply_mix s Hs.out ((mixL mixF)) (mixL_len _) mix_st X HX.out _ _ (new_cell _ _ _) (by simp)).mono ?_
  rintro e w1 ⟨rfl, h1⟩
  have H1 := Lib.hid (Since.step (Since.alloc (Since.refl w) _) h1)
  clear h1
  go_wp2_with fail
  go_ret
  exact ⟨rfl, H1.out⟩
set_option maxHeartbeats 1000000 in
theorem mix_mak_no (s : ByteArray) (hs : s.size ≠ 16) (hm : s.size ≤ 140737488355328) : Mak 31 #[.string s] (.string ⟨#[]⟩) := by
  intro w
  have c1 := fun v => apply_no s hs hm v
  clear hs
  go_enter Try.func31, Try.ntmps31
  go_wp2_with fail
  refine (c1 _).calls ?_
  go_wp2_with fail
  go_ret
  exact ⟨rfl, Since.alloc (Since.refl w) _⟩

set_option maxHeartbeats 1000000 in
theorem unmix_mak (s : ByteArray) (hs : s.size = 16) (X : ByteArray) (hX : X = bs ((mixL unmixF) s.data.toList)) : Mak 33 #[.string s] (.string X) := by
  intro w
  have HX := Lib.hid hX
  clear hX
  have Hs := Lib.hid hs
  clear hs
  go_enter Try.func33, Try.ntmps33
  go_wp2_with fail
  refine (apply_unmix s Hs.out ((mixL unmixF)) (mixL_len _) unmix_st X HX.out _ _ (new_cell _ _ _) (by simp)).mono ?_
  rintro e w1 ⟨rfl, h1⟩
  have H1 := Lib.hid (Since.step (Since.alloc (Since.refl w) _) h1)
  clear h1
  go_wp2_with fail
  go_ret
  exact ⟨rfl, H1.out⟩
set_option maxHeartbeats 1000000 in
theorem unmix_mak_no (s : ByteArray) (hs : s.size ≠ 16) (hm : s.size ≤ 140737488355328) : Mak 33 #[.string s] (.string ⟨#[]⟩) := by
  intro w
  have c1 := fun v => apply_no s hs hm v
  clear hs
  go_enter Try.func33, Try.ntmps33
  go_wp2_with fail
  refine (c1 _).calls ?_
  go_wp2_with fail
  go_ret
  exact ⟨rfl, Since.alloc (Since.refl w) _⟩

def xorL (a b : List UInt8) : List UInt8 := mk16 fun i => ent a i ^^^ ent b i
theorem xor_str (a b : List UInt8) : strOfNums ((List.range 16).map (Oct.xorV a b)) = bs (xorL a b) := by
  apply ba_ext
  rw [nums_list, list_bs, List.map_map]
  unfold xorL mk16
  apply List.map_congr_left
  intro i _
  show UInt8.ofNat (Oct.xorV a b i).toNat = UInt8.ofNat (ent a i ^^^ ent b i)
  rfl
set_option maxHeartbeats 1000000 in
theorem key_mak (s k : ByteArray) (hs : s.size = 16) (hk : k.size = 16) (X : ByteArray) (hX : X = bs (xorL s.data.toList k.data.toList)) : Mak 35 #[.string s, .string k] (.string X) := by
  intro w
  have c1 : Mak 61 #[.string s, .string k] (.string X) := fun w => by
    have h := Oct.xor_any s k w 16 (by omega) (by omega) (by omega)
    rwa [xor_str, ← hX] at h
  have h1 : (s.size : Int) = 16 := by omega
  have h2 : (k.size : Int) = 16 := by omega
  have H0 := Lib.hid (Since.refl w)
  clear hs hk hX
  go_enter Try.func35, Try.ntmps35
  go_wp2_with fail
  refine (c1).calls H0.out ?_
  intro w9 h9
  have H9 := Lib.hid h9
  clear h9
  go_wp2_with fail
  go_ret
  exact ⟨rfl, H9.out⟩
set_option maxHeartbeats 1000000 in
theorem key_no (s k : ByteArray) (h : s.size ≠ 16 ∨ k.size ≠ 16) (hm : s.size ≤ 140737488355328) (hm2 : k.size ≤ 140737488355328) : Ret 35 #[.string s, .string k] (.string ⟨#[]⟩) := by
  intro w
  by_cases h1 : s.size = 16
  · have hb : ((k.size : Int) != 16) = true := by rw [bne_iff_ne]; omega
    have h1 : (s.size : Int) = 16 := by omega
    clear h
    go_enter Try.func35, Try.ntmps35
    go_wp2_with fail
    go_ret
    exact ⟨rfl, rfl⟩
  · have hb : ((s.size : Int) != 16) = true := by rw [bne_iff_ne]; omega
    clear h h1
    go_enter Try.func35, Try.ntmps35
    go_wp2_with fail
    go_ret
    exact ⟨rfl, rfl⟩
def subL (l : List UInt8) : List UInt8 := l.map fun c => UInt8.ofNat (Sbox.sub c.toNat)
def backL (l : List UInt8) : List UInt8 := l.map fun c => UInt8.ofNat (Sbox.back c.toNat)
theorem sub_str (l : List UInt8) : strOfNums (l.map fun c => ((Sbox.sub c.toNat : Nat) : Int)) = bs (subL l) := by
  apply ba_ext; rw [nums_list, list_bs, List.map_map]; exact List.map_congr_left fun c _ => congrArg UInt8.ofNat (Int.toNat_natCast _)
theorem back_str (l : List UInt8) : strOfNums (l.map fun c => ((Sbox.back c.toNat : Nat) : Int)) = bs (backL l) := by
  apply ba_ext; rw [nums_list, list_bs, List.map_map]; exact List.map_congr_left fun c _ => congrArg UInt8.ofNat (Int.toNat_natCast _)
theorem subs_m (s : ByteArray) (hm : s.size ≤ 140737488355328) (X : ByteArray) (hX : X = bs (subL s.data.toList)) : Mak 64 #[.string s] (.string X) := by
  rw [hX, ← sub_str]; exact Sbox.subs_mak s (by omega)
theorem backs_m (s : ByteArray) (hm : s.size ≤ 140737488355328) (X : ByteArray) (hX : X = bs (backL s.data.toList)) : Mak 66 #[.string s] (.string X) := by
  rw [hX, ← back_str]; exact Sbox.backs_mak s (by omega)
def doL (last : Bool) (l k : List UInt8) : List UInt8 := xorL (if last then shiftL (subL l) else mixL mixF (shiftL (subL l))) k
def undoL (last : Bool) (l k : List UInt8) : List UInt8 := backL (if last then unshiftL (xorL l k) else unshiftL (mixL unmixF (xorL l k)))
theorem bs_len (l : List UInt8) (h : l.length = 16) : (bs l).size = 16 := by rw [size_bs, h]
theorem subL_len (l : List UInt8) : (subL l).length = l.length := by simp [subL]
theorem backL_len (l : List UInt8) : (backL l).length = l.length := by simp [backL]
theorem shiftL_len (l : List UInt8) : (shiftL l).length = 16 := pickL_len _ _
theorem unshiftL_len (l : List UInt8) : (unshiftL l).length = 16 := pickL_len _ _
theorem xorL_len (a b : List UInt8) : (xorL a b).length = 16 := mk16_len _

set_option maxHeartbeats 1000000 in
theorem do_mak (s k : ByteArray) (hs : s.size = 16) (hk : k.size = 16) (last : Bool) (X : ByteArray) (hX : X = bs (doL last s.data.toList k.data.toList)) : Mak 37 #[.string s, .string k, .bool last] (.string X) := by
  intro w
  have H0 := Lib.hid (Since.refl w)
  obtain ⟨A, hA⟩ : ∃ A, A = bs (subL s.data.toList) := ⟨_, rfl⟩
  have c1 := subs_m s (by omega) A hA
  have hAs : A.size = 16 := by rw [hA, size_bs, subL_len]; exact hs
  have hAl : A.data.toList = subL s.data.toList := by rw [hA, list_bs]
  clear hA
  cases last with
  | true =>
    obtain ⟨B, hB⟩ : ∃ B, B = bs (shiftL A.data.toList) := ⟨_, rfl⟩
    have hBs : B.size = 16 := by rw [hB]; exact bs_len _ (shiftL_len _)
    have c3 := key_mak B k hBs hk X (by rw [hX, hB, list_bs, hAl]; rfl)
    have HAs := Lib.hid hAs
    clear hAs
    have HB := Lib.hid hB
    clear hB
    clear hBs hX hAl hs hk
    go_enter Try.func37, Try.ntmps37
    go_wp2_with fail
    refine c1.calls H0.out ?_
    intro w1 h1
    have H1 := Lib.hid h1
    clear h1
    go_wp2_with fail
    refine (apply_sh A HAs.out shiftL (pickL_len _) shift_st B HB.out _ _ (new_cell _ _ _) (by simp)).mono ?_
    rintro e w2 ⟨rfl, h2⟩
    have H2 := Lib.hid (Since.step (Since.alloc H1.out _) h2)
    clear h2
    go_wp2_with fail
    refine (c3).calls H2.out ?_
    intro w3 h3
    have H3 := Lib.hid h3
    clear h3
    go_wp2_with fail
    go_ret
    exact ⟨rfl, H3.out⟩
  | false =>
    obtain ⟨B, hB⟩ : ∃ B, B = bs (mixL mixF (shiftL A.data.toList)) := ⟨_, rfl⟩
    have hBs : B.size = 16 := by rw [hB]; exact bs_len _ (mixL_len _ _)
    have c3 := key_mak B k hBs hk X (by rw [hX, hB, list_bs, hAl]; rfl)
    have HAs := Lib.hid hAs
    clear hAs
    have HB := Lib.hid hB
    clear hB
    clear hBs hX hAl hs hk
    go_enter Try.func37, Try.ntmps37
    go_wp2_with fail
    refine c1.calls H0.out ?_
    intro w1 h1
    have H1 := Lib.hid h1
    clear h1
    go_wp2_with fail
    refine (apply_shmix A HAs.out shiftL (mixL mixF) (mixL_len _) shift_st mix_st B HB.out _ _ (new_cell0 _ _ _ _) (new_cell1 _ _ _ _) (by simp)).mono ?_
    rintro e w2 ⟨rfl, h2⟩
    have H2 := Lib.hid (Since.step (Since.alloc H1.out _) h2)
    clear h2
    go_wp2_with fail
    refine (c3).calls H2.out ?_
    intro w3 h3
    have H3 := Lib.hid h3
    clear h3
    go_wp2_with fail
    go_ret
    exact ⟨rfl, H3.out⟩
set_option maxHeartbeats 1000000 in
theorem do_no (s k : ByteArray) (h : s.size ≠ 16 ∨ k.size ≠ 16) (hm : s.size ≤ 140737488355328) (hm2 : k.size ≤ 140737488355328) (last : Bool) : Mak 37 #[.string s, .string k, .bool last] (.string ⟨#[]⟩) := by
  intro w
  have H0 := Lib.hid (Since.refl w)
  obtain ⟨A, hA⟩ : ∃ A, A = bs (subL s.data.toList) := ⟨_, rfl⟩
  have c1 := subs_m s (by omega) A hA
  have hAs : A.size = s.size := by rw [hA, size_bs, subL_len]; rfl
  clear hA
  by_cases h1 : s.size = 16
  · have hA16 : A.size = 16 := by omega
    cases last with
    | true =>
      obtain ⟨B, hB⟩ : ∃ B, B = bs (shiftL A.data.toList) := ⟨_, rfl⟩
      have hBs : B.size = 16 := by rw [hB]; exact bs_len _ (shiftL_len _)
      have c3 := key_no B k (by omega) (by omega) (by omega)
      have HA16 := Lib.hid hA16
      clear hA16
      have HB := Lib.hid hB
      clear hB
      clear hBs h h1 hAs
      go_enter Try.func37, Try.ntmps37
      go_wp2_with fail
      refine c1.calls H0.out ?_
      intro w1 h1
      have H1 := Lib.hid h1
      clear h1
      go_wp2_with fail
      refine (apply_sh A HA16.out shiftL (pickL_len _) shift_st B HB.out _ _ (new_cell _ _ _) (by simp)).mono ?_
      rintro e w2 ⟨rfl, h2⟩
      have H2 := Lib.hid (Since.step (Since.alloc H1.out _) h2)
      clear h2
      go_wp2_with fail
      refine (c3).calls ?_
      go_wp2_with fail
      go_ret
      exact ⟨rfl, H2.out⟩
    | false =>
      obtain ⟨B, hB⟩ : ∃ B, B = bs (mixL mixF (shiftL A.data.toList)) := ⟨_, rfl⟩
      have hBs : B.size = 16 := by rw [hB]; exact bs_len _ (mixL_len _ _)
      have c3 := key_no B k (by omega) (by omega) (by omega)
      have HA16 := Lib.hid hA16
      clear hA16
      have HB := Lib.hid hB
      clear hB
      clear hBs h h1 hAs
      go_enter Try.func37, Try.ntmps37
      go_wp2_with fail
      refine c1.calls H0.out ?_
      intro w1 h1
      have H1 := Lib.hid h1
      clear h1
      go_wp2_with fail
      refine (apply_shmix A HA16.out shiftL (mixL mixF) (mixL_len _) shift_st mix_st B HB.out _ _ (new_cell0 _ _ _ _) (new_cell1 _ _ _ _) (by simp)).mono ?_
      rintro e w2 ⟨rfl, h2⟩
      have H2 := Lib.hid (Since.step (Since.alloc H1.out _) h2)
      clear h2
      go_wp2_with fail
      refine (c3).calls ?_
      go_wp2_with fail
      go_ret
      exact ⟨rfl, H2.out⟩
  · have c2 := fun v => apply_no A (by omega) (by omega) v
    have c3 := key_no ⟨#[]⟩ k (Or.inl (by decide)) (by decide) (by omega)
    clear h h1 hAs
    cases last with
    | true =>
      go_enter Try.func37, Try.ntmps37
      go_wp2_with fail
      refine (c1).calls H0.out ?_
      intro w1 h1
      have H1 := Lib.hid h1
      clear h1
      go_wp2_with fail
      refine (c2 _).calls ?_
      go_wp2_with fail
      refine (c3).calls ?_
      go_wp2_with fail
      go_ret
      exact ⟨rfl, Since.alloc H1.out _⟩
    | false =>
      go_enter Try.func37, Try.ntmps37
      go_wp2_with fail
      refine (c1).calls H0.out ?_
      intro w1 h1
      have H1 := Lib.hid h1
      clear h1
      go_wp2_with fail
      refine (c2 _).calls ?_
      go_wp2_with fail
      refine (c3).calls ?_
      go_wp2_with fail
      go_ret
      exact ⟨rfl, Since.alloc H1.out _⟩

set_option maxHeartbeats 1000000 in
theorem undo_mak (s k : ByteArray) (hs : s.size = 16) (hk : k.size = 16) (last : Bool) (X : ByteArray) (hX : X = bs (undoL last s.data.toList k.data.toList)) : Mak 39 #[.string s, .string k, .bool last] (.string X) := by
  intro w
  have H0 := Lib.hid (Since.refl w)
  obtain ⟨A, hA⟩ : ∃ A, A = bs (xorL s.data.toList k.data.toList) := ⟨_, rfl⟩
  have c1 := key_mak s k hs hk A hA
  have hAs : A.size = 16 := by rw [hA]; exact bs_len _ (xorL_len _ _)
  have hAl : A.data.toList = xorL s.data.toList k.data.toList := by rw [hA, list_bs]
  clear hA
  cases last with
  | true =>
    obtain ⟨B, hB⟩ : ∃ B, B = bs (unshiftL A.data.toList) := ⟨_, rfl⟩
    have hBs : B.size = 16 := by rw [hB]; exact bs_len _ (unshiftL_len _)
    have c3 := backs_m B (by omega) X (by rw [hX, hB, list_bs, hAl]; rfl)
    have HAs := Lib.hid hAs
    clear hAs
    have HB := Lib.hid hB
    clear hB
    clear hBs hX hAl hs hk
    go_enter Try.func39, Try.ntmps39
    go_wp2_with fail
    refine (c1).calls H0.out ?_
    intro w1 h1
    have H1 := Lib.hid h1
    clear h1
    go_wp2_with fail
    refine (apply_ush A HAs.out unshiftL (pickL_len _) unshift_st B HB.out _ _ (new_cell _ _ _) (by simp)).mono ?_
    rintro e w2 ⟨rfl, h2⟩
    have H2 := Lib.hid (Since.step (Since.alloc H1.out _) h2)
    clear h2
    go_wp2_with fail
    refine (c3).calls H2.out ?_
    intro w3 h3
    have H3 := Lib.hid h3
    clear h3
    go_wp2_with fail
    go_ret
    exact ⟨rfl, H3.out⟩
  | false =>
    obtain ⟨B, hB⟩ : ∃ B, B = bs (unshiftL (mixL unmixF A.data.toList)) := ⟨_, rfl⟩
    have hBs : B.size = 16 := by rw [hB]; exact bs_len _ (unshiftL_len _)
    have c3 := backs_m B (by omega) X (by rw [hX, hB, list_bs, hAl]; rfl)
    have HAs := Lib.hid hAs
    clear hAs
    have HB := Lib.hid hB
    clear hB
    clear hBs hX hAl hs hk
    go_enter Try.func39, Try.ntmps39
    go_wp2_with fail
    refine (c1).calls H0.out ?_
    intro w1 h1
    have H1 := Lib.hid h1
    clear h1
    go_wp2_with fail
    refine (apply_unmixsh A HAs.out (mixL unmixF) unshiftL (pickL_len _) unmix_st unshift_st B HB.out _ _ (new_cell0 _ _ _ _) (new_cell1 _ _ _ _) (by simp)).mono ?_
    rintro e w2 ⟨rfl, h2⟩
    have H2 := Lib.hid (Since.step (Since.alloc H1.out _) h2)
    clear h2
    go_wp2_with fail
    refine (c3).calls H2.out ?_
    intro w3 h3
    have H3 := Lib.hid h3
    clear h3
    go_wp2_with fail
    go_ret
    exact ⟨rfl, H3.out⟩
set_option maxHeartbeats 1000000 in
theorem undo_no (s k : ByteArray) (h : s.size ≠ 16 ∨ k.size ≠ 16) (hm : s.size ≤ 140737488355328) (hm2 : k.size ≤ 140737488355328) (last : Bool) : Mak 39 #[.string s, .string k, .bool last] (.string ⟨#[]⟩) := by
  intro w
  have c1 := key_no s k h (by omega) (by omega)
  have c2 := fun v => apply_no ⟨#[]⟩ (by decide) (by decide) v
  have c3 := backs_m ⟨#[]⟩ (by decide) ⟨#[]⟩ rfl
  have H0 := Lib.hid (Since.refl w)
  clear h
  cases last with
  | true =>
    go_enter Try.func39, Try.ntmps39
    go_wp2_with fail
    refine (c1).calls ?_
    go_wp2_with fail
    refine (c2 _).calls ?_
    go_wp2_with fail
    refine c3.calls (Since.alloc H0.out _) ?_
    intro w3 h3
    have H3 := Lib.hid h3
    clear h3
    go_wp2_with fail
    go_ret
    exact ⟨rfl, H3.out⟩
  | false =>
    go_enter Try.func39, Try.ntmps39
    go_wp2_with fail
    refine (c1).calls ?_
    go_wp2_with fail
    refine (c2 _).calls ?_
    go_wp2_with fail
    refine c3.calls (Since.alloc H0.out _) ?_
    intro w3 h3
    have H3 := Lib.hid h3
    clear h3
    go_wp2_with fail
    go_ret
    exact ⟨rfl, H3.out⟩
end Rnd
end Go.Proofs.Ytoblmddnefmpoaa
