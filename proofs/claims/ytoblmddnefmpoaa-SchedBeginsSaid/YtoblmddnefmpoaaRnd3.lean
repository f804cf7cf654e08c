/- Package round: the steps, and a round. -/
import Derived.Test.YtoblmddnefmpoaaRnd2
import Derived.Test.YtoblmddnefmpoaaSboxE
import Derived.Test.YtoblmddnefmpoaaOct
import Derived.Deep.WholeRow
namespace Go.Proofs.Ytoblmddnefmpoaa
open Go.RowKit
namespace Rnd

/-- a state's step -/
def Step (f : Nat) (T : List UInt8 → List UInt8) : Prop := ∀ (l : List UInt8) (C D : Array Value), C = stC l → D = stC (T l) → Mak f #[.agg C] (.agg D)
theorem boxed {w w1 : World} {C : Array Value} {t : TypeId} (h : Since (w.alloc (.cells C t)) w1) : w1.heap[w.heap.size]? = some (.cells C t (0, 0)) := by
  have h2 := h.block w.heap.size (by simp)
  exact h2.trans (Go.heap_alloc_new _ _)
def shiftL : List UInt8 → List UInt8 := pickL fun r c => (c + r) % 4
def unshiftL : List UInt8 → List UInt8 := pickL fun r c => (c + 4 - r) % 4
def mixF (j : Nat) : Nat := [2, 3, 1, 1].getD j 0
def unmixF (j : Nat) : Nat := [14, 11, 13, 9].getD j 0
def Z16 : Array Value := #[.int .u8 0, .int .u8 0, .int .u8 0, .int .u8 0, .int .u8 0, .int .u8 0, .int .u8 0, .int .u8 0, .int .u8 0, .int .u8 0, .int .u8 0, .int .u8 0, .int .u8 0, .int .u8 0, .int .u8 0, .int .u8 0]
set_option maxRecDepth 100000 in
set_option maxHeartbeats 2000000 in
theorem shift_st : Step 55 (shiftL) := by
  intro l C D hC hD w
  have c1 := pick_sh l C hC _ (fun r c hr hc => by omega) (fun r c hr hc => sh_ret r c hr hc _ rfl)
  change Mak _ _ (.agg (stC ((shiftL) l))) at c1
  rw [← hD] at c1
  have hCs : C.size = 16 := by rw [hC, stC_size]
  have hDs : D.size = 16 := by rw [hD, stC_size]
  have hD1 : D.all (·.oneCell') = true := by rw [hD]; exact stC_one _
  have iC : (Try.prog.info? 64).map (·.size) = some C.size := by rw [hCs]; exact i64st
  have iD : (Try.prog.info? 64).map (·.size) = some D.size := by rw [hDs]; exact i64st
  clear hC hD
  have HCs := Lib.hid hCs
  clear hCs
  have HDs := Lib.hid hDs
  clear hDs
  have H_iC := Lib.hid iC
  clear iC
  have H_iD := Lib.hid iD
  clear iD
  have HD1 := Lib.hid hD1
  clear hD1
  have hb1 := Go.heap_alloc_new w (.cells C 64)
  have hb2 := Lib.hid ((Go.heap_alloc_old (w.alloc (.cells C 64)) (.cells Z16 64) (by simp)).trans hb1)
  have hb3 := Go.heap_alloc_new (w.alloc (.cells C 64)) (.cells Z16 64)
  rw [World.size_alloc'] at hb3
  have hb4 := Lib.hid hb3
  have HS0 : Hid (Since w ((w.alloc (.cells C 64)).alloc (.cells Z16 64))) := Lib.hid (((Since.refl w).alloc _).alloc _)
  clear hb1 hb3
  go_enter Try.func55, Try.ntmps55
  go_wp2_with (first | (refine wpList_load_row rfl 64 _ rfl w.heap.size (by rfl) _ C _ _ hb2.out Try.underlying64 rfl H_iC.out ?_))
  refine c1.calls0 ?_
  intro w1 h1
  have hb5 := (h1.block (w.heap.size + 1) (by simp)).trans hb4.out
  have H1 : Hid (Since w w1) := Lib.hid (Since.step HS0.out h1)
  have HB5 := Lib.hid hb5
  clear h1 hb5
  go_wp2_with (first | (refine wpList_store_row rfl 64 _ _ rfl (w.heap.size + 1) D (by rfl) (by rfl) _ _ HB5.out H_iD.out (by rw [HDs.out]; rfl) HD1.out ?_))
  exact bodyPost_ret (v := .agg D) (results_cell_row Try.results55 _ _ _ _ _ _ _ rfl (setRow_heap _ _ _ _ _ _ HB5.out) Try.underlying64 rfl H_iD.out) rfl ⟨rfl, below_setRow H1.out (Nat.le_succ _) _⟩

set_option maxRecDepth 100000 in
set_option maxHeartbeats 2000000 in
theorem unshift_st : Step 57 (unshiftL) := by
  intro l C D hC hD w
  have c1 := pick_ush l C hC _ (fun r c hr hc => by omega) (fun r c hr hc => ush_ret r c hr hc _ rfl)
  change Mak _ _ (.agg (stC ((unshiftL) l))) at c1
  rw [← hD] at c1
  have hCs : C.size = 16 := by rw [hC, stC_size]
  have hDs : D.size = 16 := by rw [hD, stC_size]
  have hD1 : D.all (·.oneCell') = true := by rw [hD]; exact stC_one _
  have iC : (Try.prog.info? 64).map (·.size) = some C.size := by rw [hCs]; exact i64st
  have iD : (Try.prog.info? 64).map (·.size) = some D.size := by rw [hDs]; exact i64st
  clear hC hD
  have HCs := Lib.hid hCs
  clear hCs
  have HDs := Lib.hid hDs
  clear hDs
  have H_iC := Lib.hid iC
  clear iC
  have H_iD := Lib.hid iD
  clear iD
  have HD1 := Lib.hid hD1
  clear hD1
  have hb1 := Go.heap_alloc_new w (.cells C 64)
  have hb2 := Lib.hid ((Go.heap_alloc_old (w.alloc (.cells C 64)) (.cells Z16 64) (by simp)).trans hb1)
  have hb3 := Go.heap_alloc_new (w.alloc (.cells C 64)) (.cells Z16 64)
  rw [World.size_alloc'] at hb3
  have hb4 := Lib.hid hb3
  have HS0 : Hid (Since w ((w.alloc (.cells C 64)).alloc (.cells Z16 64))) := Lib.hid (((Since.refl w).alloc _).alloc _)
  clear hb1 hb3
  go_enter Try.func57, Try.ntmps57
  go_wp2_with (first | (refine wpList_load_row rfl 64 _ rfl w.heap.size (by rfl) _ C _ _ hb2.out Try.underlying64 rfl H_iC.out ?_))
  refine c1.calls0 ?_
  intro w1 h1
  have hb5 := (h1.block (w.heap.size + 1) (by simp)).trans hb4.out
  have H1 : Hid (Since w w1) := Lib.hid (Since.step HS0.out h1)
  have HB5 := Lib.hid hb5
  clear h1 hb5
  go_wp2_with (first | (refine wpList_store_row rfl 64 _ _ rfl (w.heap.size + 1) D (by rfl) (by rfl) _ _ HB5.out H_iD.out (by rw [HDs.out]; rfl) HD1.out ?_))
  exact bodyPost_ret (v := .agg D) (results_cell_row Try.results57 _ _ _ _ _ _ _ rfl (setRow_heap _ _ _ _ _ _ HB5.out) Try.underlying64 rfl H_iD.out) rfl ⟨rfl, below_setRow H1.out (Nat.le_succ _) _⟩

set_option maxRecDepth 100000 in
set_option maxHeartbeats 2000000 in
theorem mix_st : Step 58 (mixL mixF) := by
  intro l C D hC hD w
  have c1 := times_mak l C hC mixF (fun j hj => by have h : ∀ j, j < 4 → mixF j < 256 := (by decide); exact h j hj) #[.int .u8 2, .int .u8 3, .int .u8 1, .int .u8 1] rfl
  change Mak _ _ (.agg (stC ((mixL mixF) l))) at c1
  rw [← hD] at c1
  have hCs : C.size = 16 := by rw [hC, stC_size]
  have hDs : D.size = 16 := by rw [hD, stC_size]
  have hD1 : D.all (·.oneCell') = true := by rw [hD]; exact stC_one _
  have iC : (Try.prog.info? 64).map (·.size) = some C.size := by rw [hCs]; exact i64st
  have iD : (Try.prog.info? 64).map (·.size) = some D.size := by rw [hDs]; exact i64st
  clear hC hD
  have HCs := Lib.hid hCs
  clear hCs
  have HDs := Lib.hid hDs
  clear hDs
  have H_iC := Lib.hid iC
  clear iC
  have H_iD := Lib.hid iD
  clear iD
  have HD1 := Lib.hid hD1
  clear hD1
  have hb1 := Go.heap_alloc_new w (.cells C 64)
  have hb2 := Lib.hid ((Go.heap_alloc_old (w.alloc (.cells C 64)) (.cells Z16 64) (by simp)).trans hb1)
  have hb3 := Go.heap_alloc_new (w.alloc (.cells C 64)) (.cells Z16 64)
  rw [World.size_alloc'] at hb3
  have hb4 := Lib.hid hb3
  have HS0 : Hid (Since w ((w.alloc (.cells C 64)).alloc (.cells Z16 64))) := Lib.hid (((Since.refl w).alloc _).alloc _)
  clear hb1 hb3
  go_enter Try.func58, Try.ntmps58
  go_wp2_with (first | (refine wpList_load_row rfl 64 _ rfl w.heap.size (by rfl) _ C _ _ hb2.out Try.underlying64 rfl H_iC.out ?_))
  refine c1.calls0 ?_
  intro w1 h1
  have hb5 := (h1.block (w.heap.size + 1) (by simp)).trans hb4.out
  have H1 : Hid (Since w w1) := Lib.hid (Since.step HS0.out h1)
  have HB5 := Lib.hid hb5
  clear h1 hb5
  go_wp2_with (first | (refine wpList_store_row rfl 64 _ _ rfl (w.heap.size + 1) D (by rfl) (by rfl) _ _ HB5.out H_iD.out (by rw [HDs.out]; rfl) HD1.out ?_))
  exact bodyPost_ret (v := .agg D) (results_cell_row Try.results58 _ _ _ _ _ _ _ rfl (setRow_heap _ _ _ _ _ _ HB5.out) Try.underlying64 rfl H_iD.out) rfl ⟨rfl, below_setRow H1.out (Nat.le_succ _) _⟩

set_option maxRecDepth 100000 in
set_option maxHeartbeats 2000000 in
theorem unmix_st : Step 60 (mixL unmixF) := by
  intro l C D hC hD w
  have c1 := times_mak l C hC unmixF (fun j hj => by have h : ∀ j, j < 4 → unmixF j < 256 := (by decide); exact h j hj) #[.int .u8 14, .int .u8 11, .int .u8 13, .int .u8 9] rfl
  change Mak _ _ (.agg (stC ((mixL unmixF) l))) at c1
  rw [← hD] at c1
  have hCs : C.size = 16 := by rw [hC, stC_size]
  have hDs : D.size = 16 := by rw [hD, stC_size]
  have hD1 : D.all (·.oneCell') = true := by rw [hD]; exact stC_one _
  have iC : (Try.prog.info? 64).map (·.size) = some C.size := by rw [hCs]; exact i64st
  have iD : (Try.prog.info? 64).map (·.size) = some D.size := by rw [hDs]; exact i64st
  clear hC hD
  have HCs := Lib.hid hCs
  clear hCs
  have HDs := Lib.hid hDs
  clear hDs
  have H_iC := Lib.hid iC
  clear iC
  have H_iD := Lib.hid iD
  clear iD
  have HD1 := Lib.hid hD1
  clear hD1
  have hb1 := Go.heap_alloc_new w (.cells C 64)
  have hb2 := Lib.hid ((Go.heap_alloc_old (w.alloc (.cells C 64)) (.cells Z16 64) (by simp)).trans hb1)
  have hb3 := Go.heap_alloc_new (w.alloc (.cells C 64)) (.cells Z16 64)
  rw [World.size_alloc'] at hb3
  have hb4 := Lib.hid hb3
  have HS0 : Hid (Since w ((w.alloc (.cells C 64)).alloc (.cells Z16 64))) := Lib.hid (((Since.refl w).alloc _).alloc _)
  clear hb1 hb3
  go_enter Try.func60, Try.ntmps60
  go_wp2_with (first | (refine wpList_load_row rfl 64 _ rfl w.heap.size (by rfl) _ C _ _ hb2.out Try.underlying64 rfl H_iC.out ?_))
  refine c1.calls0 ?_
  intro w1 h1
  have hb5 := (h1.block (w.heap.size + 1) (by simp)).trans hb4.out
  have H1 : Hid (Since w w1) := Lib.hid (Since.step HS0.out h1)
  have HB5 := Lib.hid hb5
  clear h1 hb5
  go_wp2_with (first | (refine wpList_store_row rfl 64 _ _ rfl (w.heap.size + 1) D (by rfl) (by rfl) _ _ HB5.out H_iD.out (by rw [HDs.out]; rfl) HD1.out ?_))
  exact bodyPost_ret (v := .agg D) (results_cell_row Try.results60 _ _ _ _ _ _ _ rfl (setRow_heap _ _ _ _ _ _ HB5.out) Try.underlying64 rfl H_iD.out) rfl ⟨rfl, below_setRow H1.out (Nat.le_succ _) _⟩

theorem pickL_len (sel : Nat → Nat → Nat) (l : List UInt8) : (pickL sel l).length = 16 := mk16_len _
theorem mixL_len (fac : Nat → Nat) (l : List UInt8) : (mixL fac l).length = 16 := mk16_len _
theorem Step.calls {f : Nat} {T : List UInt8 → List UInt8} (h : Step f T) {l : List UInt8} {C : Array Value} (hC : C = stC l) {w : World} {R : Ending → World → Prop} (k : ∀ D w', D = stC (T l) → Below w.heap.size w w' → R (.returned (.agg D)) w') : Calls Try.prog f #[.agg C] w R :=
  (h l C _ hC rfl w).mono fun _ _ ⟨he, hb⟩ => by subst he; exact k _ _ rfl hb

theorem lt_of_heap {w : World} {b : Nat} {o : Obj} (h : w.heap[b]? = some o) : b < w.heap.size := (Array.getElem?_eq_some_iff.1 h).1
set_option maxRecDepth 100000 in
set_option maxHeartbeats 2000000 in
theorem apply_sh (s : ByteArray) (hs : s.size = 16) (T : List UInt8 → List UInt8) (hT : ∀ l, (T l).length = 16) (st : Step 55 T) (X : ByteArray) (hX : X = bs (T s.data.toList)) (w : World) (g : Nat) (hg : w.cell? ⟨g, 0, none⟩ = some (.func (.func 55) #[] #[])) (hgl : g < w.heap.size) :
    Calls Try.prog 54 #[.string s, .slice (some ⟨g, 0, none⟩) 1 1] w fun e w' => e = .returned (.string X) ∧ Since w w' := by
  have hlen : (s.size : Int) = 16 := by omega
  have HST := Lib.hid st
  have HT := Lib.hid hT
  clear st hT
  have Hg := Lib.hid hg
  clear hg
  have HX := Lib.hid hX
  clear hX
  have Hs := Lib.hid hs
  clear hs
  go_enter Try.func54, Try.ntmps54
  go_wp2_with fail
  refine (read_any s Hs.out _).mono ?_
  rintro e w1 ⟨rfl, h1⟩
  have hsz := Below.size h1
  have H1 := Lib.hid h1
  clear h1
  obtain ⟨C, hC⟩ : ∃ C, stC s.data.toList = C := ⟨_, rfl⟩
  rw [hC]
  have iC : (Try.prog.info? 64).map (·.size) = some C.size := by rw [← hC, stC_size]; exact i64st
  have hCs : C.size = 16 := by rw [← hC, stC_size]
  have hC1 : C.all (·.oneCell') = true := by rw [← hC]; exact stC_one _
  have H_iC := Lib.hid iC
  clear iC
  have HCs := Lib.hid hCs
  clear hCs
  have HC1 := Lib.hid hC1
  clear hC1
  have HC := Lib.hid hC
  clear hC
  go_wp2_with (first | (refine wpList_store_row rfl 64 _ _ rfl w1.heap.size C (by rfl) (by rfl) _ _ (Go.heap_alloc_new _ _) H_iC.out (by rw [HCs.out]; rfl) HC1.out ?_; rw [World.setRow_alloc_new]))
  go_loopw [15] (fun i wr => ∃ (k : Nat) (l : List UInt8), k ≤ 1 ∧ i = .int .i64 (k : Int) ∧ Hid (k = 0 ∧ l = s.data.toList ∨ k = 1 ∧ l = T s.data.toList) ∧ Hid (wr.heap[w1.heap.size]? = some (.cells (stC l) 64 (0, 0))) ∧ Hid (Since w wr)) (fun i _ => 1 - (intOf i).toNat)
  case atStart => exact ⟨0, s.data.toList, by omega, rfl, Lib.hid (Or.inl ⟨rfl, rfl⟩), Lib.hid (by rw [HC.out]; exact Go.heap_alloc_new _ _), Lib.hid (Since.alloc H1.out _)⟩
  case round =>
    obtain ⟨k, l, hk, rfl, HK, HB, HS⟩ := hrel
    have hkk : k = 0 ∨ k = 1 := by omega
    rcases hkk with rfl | rfl
    · have hl : l = s.data.toList := by rcases HK.out with ⟨_, h⟩ | ⟨h, _⟩; exact h; cases h
      subst hl
      have hgr := (HS.out.below.cell (p := ⟨g, 0, none⟩) hgl).trans Hg.out
      have hcs : (stC s.data.toList).size = 16 := stC_size _
      have ic : (Try.prog.info? 64).map (·.size) = some (stC s.data.toList).size := by rw [hcs]; exact i64st
      obtain ⟨E, hE⟩ : ∃ E, stC s.data.toList = E := ⟨_, rfl⟩
      have hb := HB.out
      rw [hE] at hb ic hcs
      have Hb := Lib.hid hb
      clear hb
      have H_ic := Lib.hid ic
      clear ic
      have Hcs := Lib.hid hcs
      clear hcs
      have HE := Lib.hid hE
      clear hE
      go_wp2_with (first | (refine wpList_load_row rfl 64 _ rfl w1.heap.size (by rfl) _ E _ _ Hb.out Try.underlying64 rfl H_ic.out ?_))
      refine Step.calls HST.out HE.out.symm ?_
      intro D w3 hD h3
      have hds : D.size = 16 := by rw [hD, stC_size]
      have hd1 : D.all (·.oneCell') = true := by rw [hD]; exact stC_one _
      have id : (Try.prog.info? 64).map (·.size) = some D.size := by rw [hds]; exact i64st
      have hb3 := (h3.block w1.heap.size (lt_of_heap Hb.out)).trans Hb.out
      have H3 : Hid (Since w w3) := Lib.hid (Since.step HS.out h3)
      clear h3
      have Hds := Lib.hid hds
      clear hds
      have Hd1 := Lib.hid hd1
      clear hd1
      have H_id := Lib.hid id
      clear id
      have Hb3 := Lib.hid hb3
      clear hb3
      have HD := Lib.hid hD
      clear hD
      go_wp2_with (first | (refine wpList_store_row rfl 64 _ _ rfl w1.heap.size D (by rfl) (by rfl) _ _ Hb3.out H_id.out (by rw [Hds.out, Hcs.out]) Hd1.out ?_))
      go_roundw
      case rel => exact ⟨1, T s.data.toList, by omega, rfl, Lib.hid (Or.inr ⟨rfl, rfl⟩), Lib.hid (by rw [← HD.out]; exact setRow_heap _ _ _ _ _ _ Hb3.out), Lib.hid (below_setRow H3.out hsz _)⟩
      case measure => decide
    · have hl : l = T s.data.toList := by rcases HK.out with ⟨h, _⟩ | ⟨_, h⟩; cases h; exact h
      subst hl
      have hcs : (stC (T s.data.toList)).size = 16 := stC_size _
      have ic : (Try.prog.info? 64).map (·.size) = some (stC (T s.data.toList)).size := by rw [hcs]; exact i64st
      obtain ⟨E, hE⟩ : ∃ E, stC (T s.data.toList) = E := ⟨_, rfl⟩
      have hb := HB.out
      rw [hE] at hb ic
      have c9 := text_mak (T s.data.toList) (HT.out _) E hE.symm X HX.out
      have Hb := Lib.hid hb
      clear hb
      have H_ic := Lib.hid ic
      clear ic
      have HE := Lib.hid hE
      clear hE
      have Hcs := Lib.hid hcs
      clear hcs
      go_wp2_with (first | (refine wpList_load_row rfl 64 _ rfl w1.heap.size (by rfl) _ E _ _ Hb.out Try.underlying64 rfl H_ic.out ?_))
      refine (c9).calls HS.out ?_
      intro w9 h9
      have H9 := Lib.hid h9
      clear h9
      go_wp2_with fail
      go_ret
      exact ⟨rfl, H9.out⟩

set_option maxRecDepth 100000 in
set_option maxHeartbeats 2000000 in
theorem apply_ush (s : ByteArray) (hs : s.size = 16) (T : List UInt8 → List UInt8) (hT : ∀ l, (T l).length = 16) (st : Step 57 T) (X : ByteArray) (hX : X = bs (T s.data.toList)) (w : World) (g : Nat) (hg : w.cell? ⟨g, 0, none⟩ = some (.func (.func 57) #[] #[])) (hgl : g < w.heap.size) :
    Calls Try.prog 54 #[.string s, .slice (some ⟨g, 0, none⟩) 1 1] w fun e w' => e = .returned (.string X) ∧ Since w w' := by
  have hlen : (s.size : Int) = 16 := by omega
  have HST := Lib.hid st
  have HT := Lib.hid hT
  clear st hT
  have Hg := Lib.hid hg
  clear hg
  have HX := Lib.hid hX
  clear hX
  have Hs := Lib.hid hs
  clear hs
  go_enter Try.func54, Try.ntmps54
  go_wp2_with fail
  refine (read_any s Hs.out _).mono ?_
  rintro e w1 ⟨rfl, h1⟩
  have hsz := Below.size h1
  have H1 := Lib.hid h1
  clear h1
  obtain ⟨C, hC⟩ : ∃ C, stC s.data.toList = C := ⟨_, rfl⟩
  rw [hC]
  have iC : (Try.prog.info? 64).map (·.size) = some C.size := by rw [← hC, stC_size]; exact i64st
  have hCs : C.size = 16 := by rw [← hC, stC_size]
  have hC1 : C.all (·.oneCell') = true := by rw [← hC]; exact stC_one _
  have H_iC := Lib.hid iC
  clear iC
  have HCs := Lib.hid hCs
  clear hCs
  have HC1 := Lib.hid hC1
  clear hC1
  have HC := Lib.hid hC
  clear hC
  go_wp2_with (first | (refine wpList_store_row rfl 64 _ _ rfl w1.heap.size C (by rfl) (by rfl) _ _ (Go.heap_alloc_new _ _) H_iC.out (by rw [HCs.out]; rfl) HC1.out ?_; rw [World.setRow_alloc_new]))
  go_loopw [15] (fun i wr => ∃ (k : Nat) (l : List UInt8), k ≤ 1 ∧ i = .int .i64 (k : Int) ∧ Hid (k = 0 ∧ l = s.data.toList ∨ k = 1 ∧ l = T s.data.toList) ∧ Hid (wr.heap[w1.heap.size]? = some (.cells (stC l) 64 (0, 0))) ∧ Hid (Since w wr)) (fun i _ => 1 - (intOf i).toNat)
  case atStart => exact ⟨0, s.data.toList, by omega, rfl, Lib.hid (Or.inl ⟨rfl, rfl⟩), Lib.hid (by rw [HC.out]; exact Go.heap_alloc_new _ _), Lib.hid (Since.alloc H1.out _)⟩
  case round =>
    obtain ⟨k, l, hk, rfl, HK, HB, HS⟩ := hrel
    have hkk : k = 0 ∨ k = 1 := by omega
    rcases hkk with rfl | rfl
    · have hl : l = s.data.toList := by rcases HK.out with ⟨_, h⟩ | ⟨h, _⟩; exact h; cases h
      subst hl
      have hgr := (HS.out.below.cell (p := ⟨g, 0, none⟩) hgl).trans Hg.out
      have hcs : (stC s.data.toList).size = 16 := stC_size _
      have ic : (Try.prog.info? 64).map (·.size) = some (stC s.data.toList).size := by rw [hcs]; exact i64st
      obtain ⟨E, hE⟩ : ∃ E, stC s.data.toList = E := ⟨_, rfl⟩
      have hb := HB.out
      rw [hE] at hb ic hcs
      have Hb := Lib.hid hb
      clear hb
      have H_ic := Lib.hid ic
      clear ic
      have Hcs := Lib.hid hcs
      clear hcs
      have HE := Lib.hid hE
      clear hE
      go_wp2_with (first | (refine wpList_load_row rfl 64 _ rfl w1.heap.size (by rfl) _ E _ _ Hb.out Try.underlying64 rfl H_ic.out ?_))
      refine Step.calls HST.out HE.out.symm ?_
      intro D w3 hD h3
      have hds : D.size = 16 := by rw [hD, stC_size]
      have hd1 : D.all (·.oneCell') = true := by rw [hD]; exact stC_one _
      have id : (Try.prog.info? 64).map (·.size) = some D.size := by rw [hds]; exact i64st
      have hb3 := (h3.block w1.heap.size (lt_of_heap Hb.out)).trans Hb.out
      have H3 : Hid (Since w w3) := Lib.hid (Since.step HS.out h3)
      clear h3
      have Hds := Lib.hid hds
      clear hds
      have Hd1 := Lib.hid hd1
      clear hd1
      have H_id := Lib.hid id
      clear id
      have Hb3 := Lib.hid hb3
      clear hb3
      have HD := Lib.hid hD
      clear hD
      go_wp2_with (first | (refine wpList_store_row rfl 64 _ _ rfl w1.heap.size D (by rfl) (by rfl) _ _ Hb3.out H_id.out (by rw [Hds.out, Hcs.out]) Hd1.out ?_))
      go_roundw
      case rel => exact ⟨1, T s.data.toList, by omega, rfl, Lib.hid (Or.inr ⟨rfl, rfl⟩), Lib.hid (by rw [← HD.out]; exact setRow_heap _ _ _ _ _ _ Hb3.out), Lib.hid (below_setRow H3.out hsz _)⟩
      case measure => decide
    · have hl : l = T s.data.toList := by rcases HK.out with ⟨h, _⟩ | ⟨_, h⟩; cases h; exact h
      subst hl
      have hcs : (stC (T s.data.toList)).size = 16 := stC_size _
      have ic : (Try.prog.info? 64).map (·.size) = some (stC (T s.data.toList)).size := by rw [hcs]; exact i64st
      obtain ⟨E, hE⟩ : ∃ E, stC (T s.data.toList) = E := ⟨_, rfl⟩
      have hb := HB.out
      rw [hE] at hb ic
      have c9 := text_mak (T s.data.toList) (HT.out _) E hE.symm X HX.out
      have Hb := Lib.hid hb
      clear hb
      have H_ic := Lib.hid ic
      clear ic
      have HE := Lib.hid hE
      clear hE
      have Hcs := Lib.hid hcs
      clear hcs
      go_wp2_with (first | (refine wpList_load_row rfl 64 _ rfl w1.heap.size (by rfl) _ E _ _ Hb.out Try.underlying64 rfl H_ic.out ?_))
      refine (c9).calls HS.out ?_
      intro w9 h9
      have H9 := Lib.hid h9
      clear h9
      go_wp2_with fail
      go_ret
      exact ⟨rfl, H9.out⟩

set_option maxRecDepth 100000 in
set_option maxHeartbeats 2000000 in
theorem apply_mix (s : ByteArray) (hs : s.size = 16) (T : List UInt8 → List UInt8) (hT : ∀ l, (T l).length = 16) (st : Step 58 T) (X : ByteArray) (hX : X = bs (T s.data.toList)) (w : World) (g : Nat) (hg : w.cell? ⟨g, 0, none⟩ = some (.func (.func 58) #[] #[])) (hgl : g < w.heap.size) :
    Calls Try.prog 54 #[.string s, .slice (some ⟨g, 0, none⟩) 1 1] w fun e w' => e = .returned (.string X) ∧ Since w w' := by
  have hlen : (s.size : Int) = 16 := by omega
  have HST := Lib.hid st
  have HT := Lib.hid hT
  clear st hT
  have Hg := Lib.hid hg
  clear hg
  have HX := Lib.hid hX
  clear hX
  have Hs := Lib.hid hs
  clear hs
  go_enter Try.func54, Try.ntmps54
  go_wp2_with fail
  refine (read_any s Hs.out _).mono ?_
  rintro e w1 ⟨rfl, h1⟩
  have hsz := Below.size h1
  have H1 := Lib.hid h1
  clear h1
  obtain ⟨C, hC⟩ : ∃ C, stC s.data.toList = C := ⟨_, rfl⟩
  rw [hC]
  have iC : (Try.prog.info? 64).map (·.size) = some C.size := by rw [← hC, stC_size]; exact i64st
  have hCs : C.size = 16 := by rw [← hC, stC_size]
  have hC1 : C.all (·.oneCell') = true := by rw [← hC]; exact stC_one _
  have H_iC := Lib.hid iC
  clear iC
  have HCs := Lib.hid hCs
  clear hCs
  have HC1 := Lib.hid hC1
  clear hC1
  have HC := Lib.hid hC
  clear hC
  go_wp2_with (first | (refine wpList_store_row rfl 64 _ _ rfl w1.heap.size C (by rfl) (by rfl) _ _ (Go.heap_alloc_new _ _) H_iC.out (by rw [HCs.out]; rfl) HC1.out ?_; rw [World.setRow_alloc_new]))
  go_loopw [15] (fun i wr => ∃ (k : Nat) (l : List UInt8), k ≤ 1 ∧ i = .int .i64 (k : Int) ∧ Hid (k = 0 ∧ l = s.data.toList ∨ k = 1 ∧ l = T s.data.toList) ∧ Hid (wr.heap[w1.heap.size]? = some (.cells (stC l) 64 (0, 0))) ∧ Hid (Since w wr)) (fun i _ => 1 - (intOf i).toNat)
  case atStart => exact ⟨0, s.data.toList, by omega, rfl, Lib.hid (Or.inl ⟨rfl, rfl⟩), Lib.hid (by rw [HC.out]; exact Go.heap_alloc_new _ _), Lib.hid (Since.alloc H1.out _)⟩
  case round =>
    obtain ⟨k, l, hk, rfl, HK, HB, HS⟩ := hrel
    have hkk : k = 0 ∨ k = 1 := by omega
    rcases hkk with rfl | rfl
    · have hl : l = s.data.toList := by rcases HK.out with ⟨_, h⟩ | ⟨h, _⟩; exact h; cases h
      subst hl
      have hgr := (HS.out.below.cell (p := ⟨g, 0, none⟩) hgl).trans Hg.out
      have hcs : (stC s.data.toList).size = 16 := stC_size _
      have ic : (Try.prog.info? 64).map (·.size) = some (stC s.data.toList).size := by rw [hcs]; exact i64st
      obtain ⟨E, hE⟩ : ∃ E, stC s.data.toList = E := ⟨_, rfl⟩
      have hb := HB.out
      rw [hE] at hb ic hcs
      have Hb := Lib.hid hb
      clear hb
      have H_ic := Lib.hid ic
      clear ic
      have Hcs := Lib.hid hcs
      clear hcs
      have HE := Lib.hid hE
      clear hE
      go_wp2_with (first | (refine wpList_load_row rfl 64 _ rfl w1.heap.size (by rfl) _ E _ _ Hb.out Try.underlying64 rfl H_ic.out ?_))
      refine Step.calls HST.out HE.out.symm ?_
      intro D w3 hD h3
      have hds : D.size = 16 := by rw [hD, stC_size]
      have hd1 : D.all (·.oneCell') = true := by rw [hD]; exact stC_one _
      have id : (Try.prog.info? 64).map (·.size) = some D.size := by rw [hds]; exact i64st
      have hb3 := (h3.block w1.heap.size (lt_of_heap Hb.out)).trans Hb.out
      have H3 : Hid (Since w w3) := Lib.hid (Since.step HS.out h3)
      clear h3
      have Hds := Lib.hid hds
      clear hds
      have Hd1 := Lib.hid hd1
      clear hd1
      have H_id := Lib.hid id
      clear id
      have Hb3 := Lib.hid hb3
      clear hb3
      have HD := Lib.hid hD
      clear hD
      go_wp2_with (first | (refine wpList_store_row rfl 64 _ _ rfl w1.heap.size D (by rfl) (by rfl) _ _ Hb3.out H_id.out (by rw [Hds.out, Hcs.out]) Hd1.out ?_))
      go_roundw
      case rel => exact ⟨1, T s.data.toList, by omega, rfl, Lib.hid (Or.inr ⟨rfl, rfl⟩), Lib.hid (by rw [← HD.out]; exact setRow_heap _ _ _ _ _ _ Hb3.out), Lib.hid (below_setRow H3.out hsz _)⟩
      case measure => decide
    · have hl : l = T s.data.toList := by rcases HK.out with ⟨h, _⟩ | ⟨_, h⟩; cases h; exact h
      subst hl
      have hcs : (stC (T s.data.toList)).size = 16 := stC_size _
      have ic : (Try.prog.info? 64).map (·.size) = some (stC (T s.data.toList)).size := by rw [hcs]; exact i64st
      obtain ⟨E, hE⟩ : ∃ E, stC (T s.data.toList) = E := ⟨_, rfl⟩
      have hb := HB.out
      rw [hE] at hb ic
      have c9 := text_mak (T s.data.toList) (HT.out _) E hE.symm X HX.out
      have Hb := Lib.hid hb
      clear hb
      have H_ic := Lib.hid ic
      clear ic
      have HE := Lib.hid hE
      clear hE
      have Hcs := Lib.hid hcs
      clear hcs
      go_wp2_with (first | (refine wpList_load_row rfl 64 _ rfl w1.heap.size (by rfl) _ E _ _ Hb.out Try.underlying64 rfl H_ic.out ?_))
      refine (c9).calls HS.out ?_
      intro w9 h9
      have H9 := Lib.hid h9
      clear h9
      go_wp2_with fail
      go_ret
      exact ⟨rfl, H9.out⟩

set_option maxRecDepth 100000 in
set_option maxHeartbeats 2000000 in
theorem apply_unmix (s : ByteArray) (hs : s.size = 16) (T : List UInt8 → List UInt8) (hT : ∀ l, (T l).length = 16) (st : Step 60 T) (X : ByteArray) (hX : X = bs (T s.data.toList)) (w : World) (g : Nat) (hg : w.cell? ⟨g, 0, none⟩ = some (.func (.func 60) #[] #[])) (hgl : g < w.heap.size) :
    Calls Try.prog 54 #[.string s, .slice (some ⟨g, 0, none⟩) 1 1] w fun e w' => e = .returned (.string X) ∧ Since w w' := by
  have hlen : (s.size : Int) = 16 := by omega
  have HST := Lib.hid st
  have HT := Lib.hid hT
  clear st hT
  have Hg := Lib.hid hg
  clear hg
  have HX := Lib.hid hX
  clear hX
  have Hs := Lib.hid hs
  clear hs
  go_enter Try.func54, Try.ntmps54
  go_wp2_with fail
  refine (read_any s Hs.out _).mono ?_
  rintro e w1 ⟨rfl, h1⟩
  have hsz := Below.size h1
  have H1 := Lib.hid h1
  clear h1
  obtain ⟨C, hC⟩ : ∃ C, stC s.data.toList = C := ⟨_, rfl⟩
  rw [hC]
  have iC : (Try.prog.info? 64).map (·.size) = some C.size := by rw [← hC, stC_size]; exact i64st
  have hCs : C.size = 16 := by rw [← hC, stC_size]
  have hC1 : C.all (·.oneCell') = true := by rw [← hC]; exact stC_one _
  have H_iC := Lib.hid iC
  clear iC
  have HCs := Lib.hid hCs
  clear hCs
  have HC1 := Lib.hid hC1
  clear hC1
  have HC := Lib.hid hC
  clear hC
  go_wp2_with (first | (refine wpList_store_row rfl 64 _ _ rfl w1.heap.size C (by rfl) (by rfl) _ _ (Go.heap_alloc_new _ _) H_iC.out (by rw [HCs.out]; rfl) HC1.out ?_; rw [World.setRow_alloc_new]))
  go_loopw [15] (fun i wr => ∃ (k : Nat) (l : List UInt8), k ≤ 1 ∧ i = .int .i64 (k : Int) ∧ Hid (k = 0 ∧ l = s.data.toList ∨ k = 1 ∧ l = T s.data.toList) ∧ Hid (wr.heap[w1.heap.size]? = some (.cells (stC l) 64 (0, 0))) ∧ Hid (Since w wr)) (fun i _ => 1 - (intOf i).toNat)
  case atStart => exact ⟨0, s.data.toList, by omega, rfl, Lib.hid (Or.inl ⟨rfl, rfl⟩), Lib.hid (by rw [HC.out]; exact Go.heap_alloc_new _ _), Lib.hid (Since.alloc H1.out _)⟩
  case round =>
    obtain ⟨k, l, hk, rfl, HK, HB, HS⟩ := hrel
    have hkk : k = 0 ∨ k = 1 := by omega
    rcases hkk with rfl | rfl
    · have hl : l = s.data.toList := by rcases HK.out with ⟨_, h⟩ | ⟨h, _⟩; exact h; cases h
      subst hl
      have hgr := (HS.out.below.cell (p := ⟨g, 0, none⟩) hgl).trans Hg.out
      have hcs : (stC s.data.toList).size = 16 := stC_size _
      have ic : (Try.prog.info? 64).map (·.size) = some (stC s.data.toList).size := by rw [hcs]; exact i64st
      obtain ⟨E, hE⟩ : ∃ E, stC s.data.toList = E := ⟨_, rfl⟩
      have hb := HB.out
      rw [hE] at hb ic hcs
      have Hb := Lib.hid hb
      clear hb
      have H_ic := Lib.hid ic
      clear ic
      have Hcs := Lib.hid hcs
      clear hcs
      have HE := Lib.hid hE
      clear hE
      go_wp2_with (first | (refine wpList_load_row rfl 64 _ rfl w1.heap.size (by rfl) _ E _ _ Hb.out Try.underlying64 rfl H_ic.out ?_))
      refine Step.calls HST.out HE.out.symm ?_
      intro D w3 hD h3
      have hds : D.size = 16 := by rw [hD, stC_size]
      have hd1 : D.all (·.oneCell') = true := by rw [hD]; exact stC_one _
      have id : (Try.prog.info? 64).map (·.size) = some D.size := by rw [hds]; exact i64st
      have hb3 := (h3.block w1.heap.size (lt_of_heap Hb.out)).trans Hb.out
      have H3 : Hid (Since w w3) := Lib.hid (Since.step HS.out h3)
      clear h3
      have Hds := Lib.hid hds
      clear hds
      have Hd1 := Lib.hid hd1
      clear hd1
      have H_id := Lib.hid id
      clear id
      have Hb3 := Lib.hid hb3
      clear hb3
      have HD := Lib.hid hD
      clear hD
      go_wp2_with (first | (refine wpList_store_row rfl 64 _ _ rfl w1.heap.size D (by rfl) (by rfl) _ _ Hb3.out H_id.out (by rw [Hds.out, Hcs.out]) Hd1.out ?_))
      go_roundw
      case rel => exact ⟨1, T s.data.toList, by omega, rfl, Lib.hid (Or.inr ⟨rfl, rfl⟩), Lib.hid (by rw [← HD.out]; exact setRow_heap _ _ _ _ _ _ Hb3.out), Lib.hid (below_setRow H3.out hsz _)⟩
      case measure => decide
    · have hl : l = T s.data.toList := by rcases HK.out with ⟨h, _⟩ | ⟨_, h⟩; cases h; exact h
      subst hl
      have hcs : (stC (T s.data.toList)).size = 16 := stC_size _
      have ic : (Try.prog.info? 64).map (·.size) = some (stC (T s.data.toList)).size := by rw [hcs]; exact i64st
      obtain ⟨E, hE⟩ : ∃ E, stC (T s.data.toList) = E := ⟨_, rfl⟩
      have hb := HB.out
      rw [hE] at hb ic
      have c9 := text_mak (T s.data.toList) (HT.out _) E hE.symm X HX.out
      have Hb := Lib.hid hb
      clear hb
      have H_ic := Lib.hid ic
      clear ic
      have HE := Lib.hid hE
      clear hE
      have Hcs := Lib.hid hcs
      clear hcs
      go_wp2_with (first | (refine wpList_load_row rfl 64 _ rfl w1.heap.size (by rfl) _ E _ _ Hb.out Try.underlying64 rfl H_ic.out ?_))
      refine (c9).calls HS.out ?_
      intro w9 h9
      have H9 := Lib.hid h9
      clear h9
      go_wp2_with fail
      go_ret
      exact ⟨rfl, H9.out⟩
end Rnd
end Go.Proofs.Ytoblmddnefmpoaa
