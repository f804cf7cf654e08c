/- Joined texts. -/
-- PACK: YtgfdomdbjiflmaaDoorFrame3 YtgfdomdbjiflmaaDoorFrame4 YtgfdomdbjiflmaaDoorFrameM YtgfdomdbjiflmaaDoorFrameAw YtgfdomdbjiflmaaDoorFrameTop YtgfdomdbjiflmaaDoorFrameAwk YtgfdomdbjiflmaaDoorLimit
import Derived.Test.YtgfdomdbjiflmaaDoorDk74
import Derived.Test.YtgfdomdbjiflmaaDoorDk29
import Derived.Test.YtgfdomdbjiflmaaDoorDk41
import Derived.Deep.RegionWith
import Derived.Deep.Heap
import Derived.StillTailTactics
import Derived.StillTactics
import Derived.Test.YtgfdomdbjiflmaaDoorDk73
import Derived.Test.YtgfdomdbjiflmaaDoorDk55
import Derived.Deep.QuietTactic
import Derived.BigQuiet
import Derived.Test.YtgfdomdbjiflmaaDoorDk7

/- Package frame: a block taken apart. -/
namespace Go
@[go_sem] theorem run_store_complex {P : Program} {w : World} {a : Addr} {m : Mode} (k : FloatKind) (x y : Nat) : (store a (.complex k x y) m).run P w = stored P w a (.complex k x y) m := run_store P w a _ m rfl
end Go
namespace Go.Proofs.YtgfdomdbjiflmaaDoor
open Go.RowKit
theorem heap_setCell_row {W : World} {g : Nat} {C : Array Value} {T : TypeId} (h : W.heap[g]? = some (.cells C T (0, 0))) (i : Nat) (v : Value) : (W.setCell ⟨g, i, none⟩ v).heap[g]? = some (.cells (C.setIfInBounds i v) T (0, 0)) := by
  unfold World.setCell
  simp [Array.getElem?_modify, h]
theorem row_cell? {W : World} {g : Nat} {C : Array Value} {T : TypeId} (h : W.heap[g]? = some (.cells C T (0, 0))) (i : Nat) (v : Value) (hv : C[i]? = some v) : W.cell? ⟨g, i, none⟩ = some v := by
  unfold World.cell?
  rw [h]; exact hv
theorem row_free {W : World} {g : Nat} {C : Array Value} {T : TypeId} (h : W.heap[g]? = some (.cells C T (0, 0))) (i : Nat) : W.frozen? ⟨g, i, none⟩ = false := by
  unfold World.frozen?
  rw [h]; simp
theorem step_store_row {P : Program} {ops : Array Oper} {o : Oper} {a : Act} {w : World} {K : Act → World → Prop} {Q : Exit → Act → World → Prop} {E : Prop} (hgd : o.guard = none) (ty : TypeId) (x y : Operand) (ho : o.op = .store ty x y)
    (g : Nat) (cells : Array Value) (hx : a.eval x = .pointer (some ⟨g, 0, none⟩)) (hy : a.eval y = .agg cells)
    (t : TypeId) (old : Array Value) (hg : w.heap[g]? = some (.cells old t (0, 0))) (hi : (P.info? ty).map (·.size) = some cells.size)
    (hold : old.size = cells.size) (h1 : cells.all (·.oneCell') = true)
    (h : K (a.put o.dst undef) (w.setRow g cells)) : if Region.wanted o (yielded ops a.tmps) = true then Oper.wp P o a w K Q else E := by
  have hw : Region.wanted o (yielded ops a.tmps) = true := by simp [Region.wanted, hgd]
  rw [if_pos hw]
  exact wp_store_row ty x y ho g cells hx hy t old hg hi hold h1 h
namespace Frame
open Att Templ Header
/-- the block in which a slice lies -/
def _root_.Go.Value.blockOf : Value → Option Nat
  | .slice (some A) _ _ => some A.block
  | _ => none
set_option maxRecDepth 100000 in
theorem stillR {f : Nat} {args : Array Value} {v : Value} (h : Ret f args v) (w : World) : Calls Tryd.prog f args w fun e w' => e = .returned v ∧ w' = w := (h w).mono fun _ _ ⟨he, hw⟩ => ⟨he, hw.symm⟩
theorem fresh_ne {n g : Nat} {v : Value} (h : Fresh n v) (hg : g < n) : ∀ b, v.blockOf = some b → b ≠ g := by
  intro b hb e
  match v, hb with
  | .slice (some A) l c, hb =>
    have h2 := h A l c rfl
    cases hb
    omega
theorem far_atts {W : World} {v : Value} {L : List A2} (h : AttsS W v L) (g : Nat) (hne : ∀ b, v.blockOf = some b → b ≠ g) (i : Nat) (x : Value) : AttsS (W.setCell ⟨g, i, none⟩ x) v L := by
  obtain ⟨h1, A, c, rfl, h2, h3, h4⟩ := h
  refine ⟨h1, A, c, rfl, h2, h3, ?_⟩
  rcases h4 with h4 | ⟨b, o, rfl, hlt, hc⟩
  · exact Or.inl h4
  · refine Or.inr ⟨b, o, rfl, by simpa using hlt, fun j u hu => ?_⟩
    have hb := hne b rfl
    rw [World.cell?_setCell_far W ⟨g, i, none⟩ ⟨b, o + j, none⟩ x (fun e => hb e.symm)]
    exact hc j u hu
def Z9 : Array Value := #[.string ⟨#[]⟩, .string ⟨#[]⟩, .string ⟨#[]⟩, .string ⟨#[]⟩, .string ⟨#[]⟩, .slice none 0 0, .string ⟨#[]⟩, .string ⟨#[]⟩, .string ⟨#[]⟩]
def Z4 : Array Value := #[.complex .f64 0 0, .complex .f64 0 0, .complex .f64 0 0, .complex .f64 0 0]
/-- what stands: both results' rows, and the frame that is made -/
structure SP (w : World) (C : Array Value) (W : World) : Prop where
  since : Since w W
  tabs : KH W
  r2 : W.heap[w.heap.size]? = some (.cells Z9 94 (0, 0))
  r3 : W.heap[w.heap.size + 1]? = some (.cells Z4 114 (0, 0))
  rf : W.heap[w.heap.size + 1 + 1]? = some (.cells C 94 (0, 0))
theorem SP.step {w : World} {C : Array Value} {W W' : World} (h : SP w C W) (hb : Below W.heap.size W W') : SP w C W' :=
  ⟨h.since.step hb, Kp.keep h.tabs hb, (hb.block _ (Array.getElem?_eq_some_iff.1 h.r2).1).trans h.r2, (hb.block _ (Array.getElem?_eq_some_iff.1 h.r3).1).trans h.r3, (hb.block _ (Array.getElem?_eq_some_iff.1 h.rf).1).trans h.rf⟩
theorem sp_new (w : World) (hT : KH w) : SP w Z9 (((w.alloc (.cells Z9 94)).alloc (.cells Z4 114)).alloc (.cells Z9 94)) := by
  have h0 := heap_alloc_new w (.cells Z9 94)
  have h1 := heap_alloc_new (w.alloc (.cells Z9 94)) (.cells Z4 114)
  have h2 := heap_alloc_new ((w.alloc (.cells Z9 94)).alloc (.cells Z4 114)) (.cells Z9 94)
  have e1 : (w.alloc (.cells Z9 94)).heap.size = w.heap.size + 1 := by simp
  have e2 : ((w.alloc (.cells Z9 94)).alloc (.cells Z4 114)).heap.size = w.heap.size + 1 + 1 := by simp
  rw [e1] at h1
  rw [e2] at h2
  refine ⟨(((Since.refl w).alloc _).alloc _).alloc _, ?_, ?_, ?_, h2⟩
  · exact Kp.keep hT ((((Since.refl w).alloc _).alloc _).alloc _)
  · exact (heap_alloc_old _ _ (by simp; omega)).trans ((heap_alloc_old _ _ (by simp)).trans h0)
  · exact (heap_alloc_old _ _ (by simp)).trans h1
theorem keep_far {w W : World} (h : Since w W) (p : Addr) (hp : w.heap.size ≤ p.block) (v : Value) : Since w (W.setCell p v) := Below.setCell h hp v
theorem SP.set {w : World} {C : Array Value} {W : World} (h : SP w C W) (hT : KH w) (i : Nat) (v : Value) (C' : Array Value) (hC : C.setIfInBounds i v = C') : SP w C' (W.setCell ⟨w.heap.size + 1 + 1, i, none⟩ v) := by
  subst hC
  have hs := keep_far h.since ⟨w.heap.size + 1 + 1, i, none⟩ (by show w.heap.size ≤ w.heap.size + 1 + 1; omega) v
  exact ⟨hs, Kp.keep hT hs, (Go.Deep.blk_setCell_other _ _ _ _ (by show w.heap.size ≠ w.heap.size + 1 + 1; omega)).trans h.r2, (Go.Deep.blk_setCell_other _ _ _ _ (by show w.heap.size + 1 ≠ w.heap.size + 1 + 1; omega)).trans h.r3, heap_setCell_row h.rf i v⟩
theorem far_cell {W : World} {g i : Nat} {p : Addr} {x y : Value} (h : W.cell? p = some x) (hne : p.block ≠ g) : (W.setCell ⟨g, i, none⟩ y).cell? p = some x := (World.cell?_setCell_far W ⟨g, i, none⟩ p y (fun e => hne e.symm)).trans h
set_option maxRecDepth 100000 in
theorem z9_info : (Tryd.prog.info? 94).map (·.size) = some Z9.size := by kernel_rfl
set_option maxRecDepth 100000 in
theorem z4_info : (Tryd.prog.info? 114).map (·.size) = some Z4.size := by kernel_rfl
def C9 (l u m v e : ByteArray) (x : Value) (t c g : ByteArray) : Array Value := #[.string l, .string u, .string m, .string v, .string e, x, .string t, .string c, .string g]
def CX (D M Z : Nat) : Array Value := #[.complex .f64 (Flt.fl 0) (Flt.fl 16), .complex .f64 (Flt.fl 16) (Flt.fl (D : Int)), .complex .f64 (Flt.fl (D : Int)) (Flt.fl (M : Int)), .complex .f64 (Flt.fl (M : Int)) (Flt.fl (Z : Int))]
set_option maxRecDepth 100000 in
theorem c9_info (l u m v e : ByteArray) (x : Value) (t c g : ByteArray) : (Tryd.prog.info? 94).map (·.size) = some (C9 l u m v e x t c g).size := by kernel_rfl
set_option maxRecDepth 100000 in
theorem cx_info (D M Z : Nat) : (Tryd.prog.info? 114).map (·.size) = some (CX D M Z).size := by kernel_rfl
theorem c9_one (l u m v e : ByteArray) (A : Option Addr) (n k : Nat) (t c g : ByteArray) : (C9 l u m v e (.slice A n k) t c g).all (·.oneCell') = true := by
  rw [Array.all_eq_true]
  intro i hi
  match i, hi with
  | 0, _ | 1, _ | 2, _ | 3, _ | 4, _ | 5, _ | 6, _ | 7, _ | 8, _ => rfl
theorem z9_one : Z9.all (·.oneCell') = true := by
  rw [Array.all_eq_true]
  intro i hi
  match i, hi with
  | 0, _ | 1, _ | 2, _ | 3, _ | 4, _ | 5, _ | 6, _ | 7, _ | 8, _ => rfl
theorem z4_one : Z4.all (·.oneCell') = true := by
  rw [Array.all_eq_true]
  intro i hi
  match i, hi with
  | 0, _ | 1, _ | 2, _ | 3, _ => rfl
theorem results_cc_tmp {P : Program} {fn : Func} {p q u : Tmp} {ty sy : TypeId} (h : fn.results = #[.cell p ty, .cell q sy, .tmp u]) (tmps : Array Value) (w : World) (g k : Nat) (t s : TypeId) (cs ds : Array Value) (fr gr : Nat × Nat) (d d' : TypeDesc) (v : Value)
    (hp : tmps.getD p undef = .pointer (some ⟨g, 0, none⟩)) (hq : tmps.getD q undef = .pointer (some ⟨k, 0, none⟩)) (hv : tmps.getD u undef = v) (hg : w.heap[g]? = some (.cells cs t fr)) (hk : w.heap[k]? = some (.cells ds s gr))
    (hu : P.underlying ty = some d) (hd : (match d with | .struct _ | .array _ _ => true | _ => false) = true) (hi : (P.info? ty).map (·.size) = some cs.size)
    (hu' : P.underlying sy = some d') (hd' : (match d' with | .struct _ | .array _ _ => true | _ => false) = true) (hi' : (P.info? sy).map (·.size) = some ds.size) :
    (results fn tmps).run P w = .ok (.tuple #[.agg cs, .agg ds, v]) w := by
  subst hv
  have hp' : tmps[p]?.getD undef = .pointer (some ⟨g, 0, none⟩) := by simpa using hp
  have hq' : tmps[q]?.getD undef = .pointer (some ⟨k, 0, none⟩) := by simpa using hq
  simp [results, h, hp', hq', asAddr, run_loadVar_row w g t ty cs fr d hg hu hd hi, run_loadVar_row w k s sy ds gr d' hk hu' hd' hi']
/-- both results stored -/
theorem two_rows {w W : World} {C A B : Array Value} (h : SP w C W) : ((W.setRow w.heap.size A).setRow (w.heap.size + 1) B).heap[w.heap.size]? = some (.cells A 94 (0, 0)) ∧ ((W.setRow w.heap.size A).setRow (w.heap.size + 1) B).heap[w.heap.size + 1]? = some (.cells B 114 (0, 0)) ∧ Since w ((W.setRow w.heap.size A).setRow (w.heap.size + 1) B) := by
  have h2 := setRow_heap W w.heap.size _ A _ _ h.r2
  have h3 : (W.setRow w.heap.size A).heap[w.heap.size + 1]? = _ := (setRow_other _ _ _ _ (by omega)).trans h.r3
  exact ⟨(setRow_other _ _ _ _ (by omega)).trans h2, setRow_heap _ _ _ _ _ _ h3, below_setRow (below_setRow h.since (Nat.le_refl _) _) (by omega) _⟩
/-- no frame -/
def noF (E : Int) : Value := .tuple #[.agg Z9, .agg Z4, .int .i64 E]
set_option maxRecDepth 100000 in
set_option maxHeartbeats 8000000 in
theorem spl_b (s : ByteArray) (_V : Array Value) (E : Int) (hE : (E == 0) = false) (n k : Int) (l u m v e : ByteArray) (c1 : KMk KH 99 #[.string s] (.tuple #[.agg #[.int .i64 n, .string l, .int .i64 k, .string u, .string m, .string v, .string e], .int .i64 E])) : KMk KH 88 #[.string s] (noF E) := by
  intro w hT
  have hs := Lib.hid (sp_new w hT)
  have HS := Lib.hid hs.out.since
  have HT0 := Lib.hid hT
  unfold Z9 Z4 at hs HS
  clear hT
  go_enter Tryd.func88, Tryd.ntmps88
  go_wp2_with fail
  refine wp_scope_some 1 ?_
  go_wp2_with fail
  refine (c1.calls0 hs.out.tabs) ?_
  intro w1 h1
  replace hs := Lib.hid (hs.out.step (by first | exact h1 | exact (Since.alloc (Since.refl _) _).step h1 | exact (Since.alloc (Since.alloc (Since.refl _) _) _).step h1 | exact (Since.drew (Since.refl _)).step h1 | exact (Since.alloc (Since.alloc (Since.alloc (Since.refl _) _) _) _).step h1))
  replace HS := Lib.hid (HS.out.step (by first | exact h1 | exact (Since.alloc (Since.refl _) _).step h1 | exact (Since.alloc (Since.alloc (Since.refl _) _) _).step h1 | exact (Since.drew (Since.refl _)).step h1 | exact (Since.alloc (Since.alloc (Since.alloc (Since.refl _) _) _) _).step h1))
  clear h1
  replace hs : Hid (SP w _ (w1.alloc (.cells #[.int .i64 n, .string l, .int .i64 k, .string u, .string m, .string v, .string e] 138))) := Lib.hid (hs.out.step ((Below.refl _ _).alloc (Nat.le_refl _) _))
  go_wp2_with fail
  go_step3
  refine ⟨_, rfl, ?_⟩
  go_wp2_with (first
    | (refine wpList_store_row rfl 94 _ _ rfl w.heap.size Z9 (by rfl) (by rfl) _ _ hs.out.r2 z9_info rfl z9_one ?_)
    | (refine wpList_store_row rfl 114 _ _ rfl (w.heap.size + 1) Z4 (by rfl) (by rfl) _ _ ((setRow_other _ _ _ _ (by omega)).trans hs.out.r3) z4_info rfl z4_one ?_))
  exact bodyPost_ret (v := noF E) (results_cc_tmp Tryd.results88 _ _ _ _ _ _ _ _ _ _ _ _ _ rfl rfl rfl (two_rows hs.out).1 (two_rows hs.out).2.1 Tryd.underlying94 rfl z9_info Tryd.underlying114 rfl z4_info) rfl ⟨rfl, (two_rows hs.out).2.2⟩
/-- up to the header's fields in the frame -/
def W6 (W : World) (g : Nat) (l u m v e : ByteArray) : World := (((((W.setCell ⟨g, 0, none⟩ (.string l)).setCell ⟨g, 1, none⟩ (.string u)).setCell ⟨g, 2, none⟩ (.string m)).setCell ⟨g, 3, none⟩ (.string v)).setCell ⟨g, 4, none⟩ (.string e)).drew
theorem W6.sp {w W : World} (h : SP w Z9 W) (hT : KH w) (l u m v e : ByteArray) : SP w (C9 l u m v e (.slice none 0 0) ⟨#[]⟩ ⟨#[]⟩ ⟨#[]⟩) (W6 W (w.heap.size + 1 + 1) l u m v e) := by
  have h0 := h.set hT 0 (.string l) (C9 l ⟨#[]⟩ ⟨#[]⟩ ⟨#[]⟩ ⟨#[]⟩ (.slice none 0 0) ⟨#[]⟩ ⟨#[]⟩ ⟨#[]⟩) (by simp [Z9, C9])
  have h1 := h0.set hT 1 (.string u) (C9 l u ⟨#[]⟩ ⟨#[]⟩ ⟨#[]⟩ (.slice none 0 0) ⟨#[]⟩ ⟨#[]⟩ ⟨#[]⟩) (by simp [C9])
  have h2 := h1.set hT 2 (.string m) (C9 l u m ⟨#[]⟩ ⟨#[]⟩ (.slice none 0 0) ⟨#[]⟩ ⟨#[]⟩ ⟨#[]⟩) (by simp [C9])
  have h3 := h2.set hT 3 (.string v) (C9 l u m v ⟨#[]⟩ (.slice none 0 0) ⟨#[]⟩ ⟨#[]⟩ ⟨#[]⟩) (by simp [C9])
  have h4 := h3.set hT 4 (.string e) (C9 l u m v e (.slice none 0 0) ⟨#[]⟩ ⟨#[]⟩ ⟨#[]⟩) (by simp [C9])
  unfold W6
  exact h4.step (Below.drew (Below.refl _ _))
theorem W6.far {W : World} {g : Nat} {p : Addr} {x : Value} (h : W.cell? p = some x) (hne : p.block ≠ g) (l u m v e : ByteArray) : (W6 W g l u m v e).cell? p = some x := by
  have h0 := far_cell (i := 0) (y := .string l) h hne
  have h1 := far_cell (i := 1) (y := .string u) h0 hne
  have h2 := far_cell (i := 2) (y := .string m) h1 hne
  have h3 := far_cell (i := 3) (y := .string v) h2 hne
  have h4 := far_cell (i := 4) (y := .string e) h3 hne
  unfold W6
  generalize (((((W.setCell ⟨g, 0, none⟩ (.string l)).setCell ⟨g, 1, none⟩ (.string u)).setCell ⟨g, 2, none⟩ (.string m)).setCell ⟨g, 3, none⟩ (.string v)).setCell ⟨g, 4, none⟩ (.string e)) = X at h4 ⊢
  exact h4
set_option maxRecDepth 100000 in
set_option maxHeartbeats 8000000 in
theorem spl_u (s T : ByteArray) (h16 : (16 : Int) ≤ (s.size : Int)) (_h16' : 16 ≤ s.size) (hT' : s.extract 16 s.size = T) (n k : Int) (l u m v e : ByteArray) (c1 : KMk KH 99 #[.string s] (.tuple #[.agg #[.int .i64 n, .string l, .int .i64 k, .string u, .string m, .string v, .string e], .int .i64 0]))
    (O : List Opt.P2) (N E : Int) (hE : (E == 0) = false) (c2 : Opt.MkO 100 #[.string T, .int .i64 k] O N E) : KMk KH 88 #[.string s] (noF E) := by
  intro w hT
  have hs := Lib.hid (sp_new w hT)
  have HS := Lib.hid hs.out.since
  have HT0 := Lib.hid hT
  unfold Z9 Z4 at hs HS
  clear hT
  go_enter Tryd.func88, Tryd.ntmps88
  go_wp2_with fail
  refine wp_scope_some 1 ?_
  go_wp2_with fail
  refine (c1.calls0 hs.out.tabs) ?_
  intro w1 h1
  replace hs := Lib.hid (hs.out.step (by first | exact h1 | exact (Since.alloc (Since.refl _) _).step h1 | exact (Since.alloc (Since.alloc (Since.refl _) _) _).step h1 | exact (Since.drew (Since.refl _)).step h1 | exact (Since.alloc (Since.alloc (Since.alloc (Since.refl _) _) _) _).step h1))
  replace HS := Lib.hid (HS.out.step (by first | exact h1 | exact (Since.alloc (Since.refl _) _).step h1 | exact (Since.alloc (Since.alloc (Since.refl _) _) _).step h1 | exact (Since.drew (Since.refl _)).step h1 | exact (Since.alloc (Since.alloc (Since.alloc (Since.refl _) _) _) _).step h1))
  clear h1
  have hlt : w.heap.size + 1 + 1 < w1.heap.size := (Array.getElem?_eq_some_iff.1 hs.out.rf).1
  obtain ⟨W2, hW2⟩ : ∃ W2, W2 = w1.alloc (.cells #[.int .i64 n, .string l, .int .i64 k, .string u, .string m, .string v, .string e] 138) := ⟨_, rfl⟩
  have hp2 : Hid (HB w1 KT w1.heap.size #[.int .i64 n, .string l, .int .i64 k, .string u, .string m, .string v, .string e] W2) := Lib.hid (by rw [hW2]; exact hb_new w1 KT trivial _ _)
  replace hs : Hid (SP w _ W2) := Lib.hid (by rw [hW2]; exact hs.out.step ((Below.refl _ _).alloc (Nat.le_refl _) _))
  have f0 := row_cell? hs.out.rf 0 _ rfl
  have f1 := row_cell? hs.out.rf 1 _ rfl
  have f2 := row_cell? hs.out.rf 2 _ rfl
  have f3 := row_cell? hs.out.rf 3 _ rfl
  have f4 := row_cell? hs.out.rf 4 _ rfl
  have g0 := row_free hs.out.rf 0
  have g1 := row_free hs.out.rf 1
  have g2 := row_free hs.out.rf 2
  have g3 := row_free hs.out.rf 3
  have g4 := row_free hs.out.rf 4
  obtain ⟨_, q0, q1, q2, q3, q4, q5, q6⟩ := hb7 hp2
  have q9 := W6.far q2 (show w1.heap.size ≠ w.heap.size + 1 + 1 by omega) l u m v e
  have hs3 := Lib.hid (W6.sp hs.out HT0.out l u m v e)
  go_wp2_with fail
  rw [← hW2]
  clear hW2 HS
  go_region
  clear f0 f1 f2 f3 f4 g0 g1 g2 g3 g4 q0 q1 q2 q3 q4 q5 q6 hs hp2
  obtain ⟨W3, hW3⟩ : ∃ W3, W3 = W6 W2 (w.heap.size + 1 + 1) l u m v e := ⟨_, rfl⟩
  rw [← hW3] at hs3 q9
  unfold W6 at hW3
  rw [← hW3]
  clear hW3
  have hs := hs3
  have HS := Lib.hid hs.out.since
  clear hs3
  go_wp2_with fail
  go_region_law (go_simp; go_at_call 100; refine c2.calls0 ?_; intro o w4 ho h4; replace hs := Lib.hid (hs.out.step (by first | exact h4 | exact Since.step (Since.drew (Since.refl _)) h4)); replace HS := Lib.hid hs.out.since; have HO := Lib.hid ho; clear ho h4 q9)
  all_goals
    go_simp
    go_wp2_with fail
    go_step3
    refine ⟨_, rfl, ?_⟩
    go_wp2_with (first
      | (refine wpList_store_row rfl 94 _ _ rfl w.heap.size Z9 (by rfl) (by rfl) _ _ hs.out.r2 z9_info rfl z9_one ?_)
      | (refine wpList_store_row rfl 114 _ _ rfl (w.heap.size + 1) Z4 (by rfl) (by rfl) _ _ ((setRow_other _ _ _ _ (by omega)).trans hs.out.r3) z4_info rfl z4_one ?_))
    exact bodyPost_ret (v := noF E) (results_cc_tmp Tryd.results88 _ _ _ _ _ _ _ _ _ _ _ _ _ rfl rfl rfl (two_rows hs.out).1 (two_rows hs.out).2.1 Tryd.underlying94 rfl z9_info Tryd.underlying114 rfl z4_info) rfl ⟨rfl, (two_rows hs.out).2.2⟩
set_option maxRecDepth 100000 in
set_option maxHeartbeats 8000000 in
theorem spl_f (s T : ByteArray) (h16 : (16 : Int) ≤ (s.size : Int)) (_h16' : 16 ≤ s.size) (hT' : s.extract 16 s.size = T) (n k : Int) (l u m v e : ByteArray) (c1 : KMk KH 99 #[.string s] (.tuple #[.agg #[.int .i64 n, .string l, .int .i64 k, .string u, .string m, .string v, .string e], .int .i64 0]))
    (O : List Opt.P2) (N : Int) (c2 : Opt.MkO 100 #[.string T, .int .i64 k] O N 0) (L : List A2) (E : Int) (hE : (E == 0) = false) (c3 : MkF 101 O L E) : KMk KH 88 #[.string s] (noF E) := by
  intro w hT
  have hs := Lib.hid (sp_new w hT)
  have HS := Lib.hid hs.out.since
  have HT0 := Lib.hid hT
  unfold Z9 Z4 at hs HS
  clear hT
  go_enter Tryd.func88, Tryd.ntmps88
  go_wp2_with fail
  refine wp_scope_some 1 ?_
  go_wp2_with fail
  refine (c1.calls0 hs.out.tabs) ?_
  intro w1 h1
  replace hs := Lib.hid (hs.out.step (by first | exact h1 | exact (Since.alloc (Since.refl _) _).step h1 | exact (Since.alloc (Since.alloc (Since.refl _) _) _).step h1 | exact (Since.drew (Since.refl _)).step h1 | exact (Since.alloc (Since.alloc (Since.alloc (Since.refl _) _) _) _).step h1))
  replace HS := Lib.hid (HS.out.step (by first | exact h1 | exact (Since.alloc (Since.refl _) _).step h1 | exact (Since.alloc (Since.alloc (Since.refl _) _) _).step h1 | exact (Since.drew (Since.refl _)).step h1 | exact (Since.alloc (Since.alloc (Since.alloc (Since.refl _) _) _) _).step h1))
  clear h1
  have hlt : w.heap.size + 1 + 1 < w1.heap.size := (Array.getElem?_eq_some_iff.1 hs.out.rf).1
  obtain ⟨W2, hW2⟩ : ∃ W2, W2 = w1.alloc (.cells #[.int .i64 n, .string l, .int .i64 k, .string u, .string m, .string v, .string e] 138) := ⟨_, rfl⟩
  have hp2 : Hid (HB w1 KT w1.heap.size #[.int .i64 n, .string l, .int .i64 k, .string u, .string m, .string v, .string e] W2) := Lib.hid (by rw [hW2]; exact hb_new w1 KT trivial _ _)
  replace hs : Hid (SP w _ W2) := Lib.hid (by rw [hW2]; exact hs.out.step ((Below.refl _ _).alloc (Nat.le_refl _) _))
  have f0 := row_cell? hs.out.rf 0 _ rfl
  have f1 := row_cell? hs.out.rf 1 _ rfl
  have f2 := row_cell? hs.out.rf 2 _ rfl
  have f3 := row_cell? hs.out.rf 3 _ rfl
  have f4 := row_cell? hs.out.rf 4 _ rfl
  have g0 := row_free hs.out.rf 0
  have g1 := row_free hs.out.rf 1
  have g2 := row_free hs.out.rf 2
  have g3 := row_free hs.out.rf 3
  have g4 := row_free hs.out.rf 4
  obtain ⟨_, q0, q1, q2, q3, q4, q5, q6⟩ := hb7 hp2
  have q9 := W6.far q2 (show w1.heap.size ≠ w.heap.size + 1 + 1 by omega) l u m v e
  have hs3 := Lib.hid (W6.sp hs.out HT0.out l u m v e)
  go_wp2_with fail
  rw [← hW2]
  clear hW2 HS
  go_region
  clear f0 f1 f2 f3 f4 g0 g1 g2 g3 g4 q0 q1 q2 q3 q4 q5 q6 hs hp2
  obtain ⟨W3, hW3⟩ : ∃ W3, W3 = W6 W2 (w.heap.size + 1 + 1) l u m v e := ⟨_, rfl⟩
  rw [← hW3] at hs3 q9
  unfold W6 at hW3
  rw [← hW3]
  clear hW3
  have hs := hs3
  have HS := Lib.hid hs.out.since
  clear hs3
  go_wp2_with fail
  go_region_law (go_simp; go_at_call 100; refine c2.calls0 ?_; intro o w4 ho h4; replace hs := Lib.hid (hs.out.step (by first | exact h4 | exact Since.step (Since.drew (Since.refl _)) h4)); replace HS := Lib.hid hs.out.since; have HO := Lib.hid ho; clear ho h4 q9)
  all_goals
    go_simp
    go_wp2_with fail
    refine c3.calls1 HO.out ?_
    intro a w5 ha h5
    have hfr := Lib.hid (show ∀ b, a.blockOf = some b → b ≠ w.heap.size + 1 + 1 from fresh_ne ha.2 (Array.getElem?_eq_some_iff.1 hs.out.rf).1)
    have hfq := Lib.hid (show ∀ b, a.blockOf = some b → b ≠ w.heap.size ∧ b ≠ w.heap.size + 1 from fun b hb => ⟨fresh_ne ha.2 (Array.getElem?_eq_some_iff.1 hs.out.r2).1 b hb, fresh_ne ha.2 (Array.getElem?_eq_some_iff.1 hs.out.r3).1 b hb⟩)
    have hfz := Lib.hid (show Fresh w.heap.size a from fun A' l' c' e' => Nat.le_trans (Below.size HS.out) (ha.2 A' l' c' e'))
    replace hs := Lib.hid (hs.out.step h5)
    have HA := Lib.hid ha.1
    obtain ⟨A, d, hav, _⟩ := ha.1.slice
    have f5 := row_cell? hs.out.rf 5 _ rfl
    have g5 := row_free hs.out.rf 5
    have hs6 := Lib.hid (hs.out.set HT0.out 5 a (C9 l u m v e a ⟨#[]⟩ ⟨#[]⟩ ⟨#[]⟩) (by simp [C9]))
    clear ha h5 HS HO
    subst hav
    go_wp2_with fail
    go_step3
    refine ⟨_, rfl, ?_⟩
    obtain ⟨W4, hW4⟩ : ∃ W4, W4 = w5.setCell ⟨w.heap.size + 1 + 1, 5, none⟩ (.slice A L.length d) := ⟨_, rfl⟩
    rw [← hW4] at hs6 ⊢
    clear hs hW4
    have hs := hs6
    go_wp2_with (first
      | (refine wpList_store_row rfl 94 _ _ rfl w.heap.size Z9 (by rfl) (by rfl) _ _ hs.out.r2 z9_info rfl z9_one ?_)
      | (refine wpList_store_row rfl 114 _ _ rfl (w.heap.size + 1) Z4 (by rfl) (by rfl) _ _ ((setRow_other _ _ _ _ (by omega)).trans hs.out.r3) z4_info rfl z4_one ?_))
    exact bodyPost_ret (v := noF E) (results_cc_tmp Tryd.results88 _ _ _ _ _ _ _ _ _ _ _ _ _ rfl rfl rfl (two_rows hs.out).1 (two_rows hs.out).2.1 Tryd.underlying94 rfl z9_info Tryd.underlying114 rfl z4_info) rfl ⟨rfl, (two_rows hs.out).2.2⟩
set_option maxRecDepth 100000 in
set_option maxHeartbeats 16000000 in
theorem spl_s (s T : ByteArray) (h16 : (16 : Int) ≤ (s.size : Int)) (_h16' : 16 ≤ s.size) (hz : s.size ≤ 1000000) (hT' : s.extract 16 s.size = T) (n k : Int) (l u m v e : ByteArray) (c1 : KMk KH 99 #[.string s] (.tuple #[.agg #[.int .i64 n, .string l, .int .i64 k, .string u, .string m, .string v, .string e], .int .i64 0]))
    (O : List Opt.P2) (N D : Nat) (hN : ((N : Int) + 16) = (D : Int)) (hD0 : (0 : Int) ≤ (D : Int)) (hD : (D : Int) ≤ (s.size : Int)) (c2 : Opt.MkO 100 #[.string T, .int .i64 k] O (N : Int) 0) (L : List A2) (c3 : MkF 101 O L 0)
    (P R C G : ByteArray) (hP : s.extract 0 D = P) (hR : s.extract D s.size = R) (E : Int) (hE : (E == 0) = false) (c4 : Mak 102 #[.string R] (.tuple #[.string C, .string G, .int .i64 E])) : KMk KH 88 #[.string s] (noF E) := by
  intro w hT
  have hs := Lib.hid (sp_new w hT)
  have HS := Lib.hid hs.out.since
  have HT0 := Lib.hid hT
  unfold Z9 Z4 at hs HS
  clear hT
  go_enter Tryd.func88, Tryd.ntmps88
  go_wp2_with fail
  refine wp_scope_some 1 ?_
  go_wp2_with fail
  refine (c1.calls0 hs.out.tabs) ?_
  intro w1 h1
  replace hs := Lib.hid (hs.out.step (by first | exact h1 | exact (Since.alloc (Since.refl _) _).step h1 | exact (Since.alloc (Since.alloc (Since.refl _) _) _).step h1 | exact (Since.drew (Since.refl _)).step h1 | exact (Since.alloc (Since.alloc (Since.alloc (Since.refl _) _) _) _).step h1))
  replace HS := Lib.hid (HS.out.step (by first | exact h1 | exact (Since.alloc (Since.refl _) _).step h1 | exact (Since.alloc (Since.alloc (Since.refl _) _) _).step h1 | exact (Since.drew (Since.refl _)).step h1 | exact (Since.alloc (Since.alloc (Since.alloc (Since.refl _) _) _) _).step h1))
  clear h1
  have hlt : w.heap.size + 1 + 1 < w1.heap.size := (Array.getElem?_eq_some_iff.1 hs.out.rf).1
  obtain ⟨W2, hW2⟩ : ∃ W2, W2 = w1.alloc (.cells #[.int .i64 n, .string l, .int .i64 k, .string u, .string m, .string v, .string e] 138) := ⟨_, rfl⟩
  have hp2 : Hid (HB w1 KT w1.heap.size #[.int .i64 n, .string l, .int .i64 k, .string u, .string m, .string v, .string e] W2) := Lib.hid (by rw [hW2]; exact hb_new w1 KT trivial _ _)
  replace hs : Hid (SP w _ W2) := Lib.hid (by rw [hW2]; exact hs.out.step ((Below.refl _ _).alloc (Nat.le_refl _) _))
  have f0 := row_cell? hs.out.rf 0 _ rfl
  have f1 := row_cell? hs.out.rf 1 _ rfl
  have f2 := row_cell? hs.out.rf 2 _ rfl
  have f3 := row_cell? hs.out.rf 3 _ rfl
  have f4 := row_cell? hs.out.rf 4 _ rfl
  have g0 := row_free hs.out.rf 0
  have g1 := row_free hs.out.rf 1
  have g2 := row_free hs.out.rf 2
  have g3 := row_free hs.out.rf 3
  have g4 := row_free hs.out.rf 4
  obtain ⟨_, q0, q1, q2, q3, q4, q5, q6⟩ := hb7 hp2
  have q9 := W6.far q2 (show w1.heap.size ≠ w.heap.size + 1 + 1 by omega) l u m v e
  have hs3 := Lib.hid (W6.sp hs.out HT0.out l u m v e)
  go_wp2_with fail
  rw [← hW2]
  clear hW2 HS
  go_region
  clear f0 f1 f2 f3 f4 g0 g1 g2 g3 g4 q0 q1 q2 q3 q4 q5 q6 hs hp2
  obtain ⟨W3, hW3⟩ : ∃ W3, W3 = W6 W2 (w.heap.size + 1 + 1) l u m v e := ⟨_, rfl⟩
  rw [← hW3] at hs3 q9
  unfold W6 at hW3
  rw [← hW3]
  clear hW3
  have hs := hs3
  have HS := Lib.hid hs.out.since
  clear hs3
  go_wp2_with fail
  go_region_law (go_simp; go_at_call 100; refine c2.calls0 ?_; intro o w4 ho h4; replace hs := Lib.hid (hs.out.step (by first | exact h4 | exact Since.step (Since.drew (Since.refl _)) h4)); replace HS := Lib.hid hs.out.since; have HO := Lib.hid ho; clear ho h4 q9)
  all_goals
    go_simp
    go_wp2_with fail
    refine c3.calls1 HO.out ?_
    intro a w5 ha h5
    have hfr := Lib.hid (show ∀ b, a.blockOf = some b → b ≠ w.heap.size + 1 + 1 from fresh_ne ha.2 (Array.getElem?_eq_some_iff.1 hs.out.rf).1)
    have hfq := Lib.hid (show ∀ b, a.blockOf = some b → b ≠ w.heap.size ∧ b ≠ w.heap.size + 1 from fun b hb => ⟨fresh_ne ha.2 (Array.getElem?_eq_some_iff.1 hs.out.r2).1 b hb, fresh_ne ha.2 (Array.getElem?_eq_some_iff.1 hs.out.r3).1 b hb⟩)
    have hfz := Lib.hid (show Fresh w.heap.size a from fun A' l' c' e' => Nat.le_trans (Below.size HS.out) (ha.2 A' l' c' e'))
    replace hs := Lib.hid (hs.out.step h5)
    have HA := Lib.hid ha.1
    obtain ⟨A, d, hav, _⟩ := ha.1.slice
    have f5 := row_cell? hs.out.rf 5 _ rfl
    have g5 := row_free hs.out.rf 5
    have hs6 := Lib.hid (hs.out.set HT0.out 5 a (C9 l u m v e a ⟨#[]⟩ ⟨#[]⟩ ⟨#[]⟩) (by simp [C9]))
    clear ha h5 HS HO
    subst hav
    have f6 := row_cell? hs.out.rf 6 _ rfl
    have g6 := row_free hs.out.rf 6
    have hs7 := Lib.hid (hs6.out.set HT0.out 6 (.string P) (C9 l u m v e (.slice A L.length d) P ⟨#[]⟩ ⟨#[]⟩) (by simp [C9]))
    have HA7 := Lib.hid (far_atts (far_atts HA.out (w.heap.size + 1 + 1) hfr.out 5 (.slice A L.length d)) (w.heap.size + 1 + 1) hfr.out 6 (.string P))
    clear HA hs hs6
    go_wp2_with fail
    refine c4.calls0 ?_
    intro w6 h6
    have hs := Lib.hid (hs7.out.step h6)
    have HA := Lib.hid (HA7.out.since h6)
    clear hs7 HA7 f5 g5 f6 g6 h6
    have f7 := row_cell? hs.out.rf 7 _ rfl
    have g7 := row_free hs.out.rf 7
    have f8 := row_cell? hs.out.rf 8 _ rfl
    have g8 := row_free hs.out.rf 8
    have hs8 := Lib.hid ((hs.out.set HT0.out 7 (.string C) (C9 l u m v e (.slice A L.length d) P C ⟨#[]⟩) (by simp [C9])).set HT0.out 8 (.string G) (C9 l u m v e (.slice A L.length d) P C G) (by simp [C9]))
    have HA8 := Lib.hid (far_atts (far_atts HA.out (w.heap.size + 1 + 1) hfr.out 7 (.string C)) (w.heap.size + 1 + 1) hfr.out 8 (.string G))
    go_wp2_with fail
    go_step3
    refine ⟨_, rfl, ?_⟩
    clear hs HA HA8
    obtain ⟨W4, hW4⟩ : ∃ W4, W4 = (w6.setCell ⟨w.heap.size + 1 + 1, 7, none⟩ (.string C)).setCell ⟨w.heap.size + 1 + 1, 8, none⟩ (.string G) := ⟨_, rfl⟩
    rw [← hW4] at hs8 ⊢
    clear hW4
    have hs := hs8
    go_wp2_with (first
      | (refine wpList_store_row rfl 94 _ _ rfl w.heap.size Z9 (by rfl) (by rfl) _ _ hs.out.r2 z9_info rfl z9_one ?_)
      | (refine wpList_store_row rfl 114 _ _ rfl (w.heap.size + 1) Z4 (by rfl) (by rfl) _ _ ((setRow_other _ _ _ _ (by omega)).trans hs.out.r3) z4_info rfl z4_one ?_))
    exact bodyPost_ret (v := noF E) (results_cc_tmp Tryd.results88 _ _ _ _ _ _ _ _ _ _ _ _ _ rfl rfl rfl (two_rows hs.out).1 (two_rows hs.out).2.1 Tryd.underlying94 rfl z9_info Tryd.underlying114 rfl z4_info) rfl ⟨rfl, (two_rows hs.out).2.2⟩
def setA (C : Array Value) : Nat → List Value → Array Value
  | _, [] => C
  | o, v :: vs => setA (C.setIfInBounds o v) (o + 1) vs
theorem row_setCells {g : Nat} {T : TypeId} : ∀ (vs : List Value) (o : Nat) (W : World) (C : Array Value), W.heap[g]? = some (.cells C T (0, 0)) → (W.setCells g o vs).heap[g]? = some (.cells (setA C o vs) T (0, 0))
  | [], _, _, _, h => h
  | v :: vs, o, W, C, h => row_setCells vs (o + 1) (W.setCell ⟨g, o, none⟩ v) (C.setIfInBounds o v) (heap_setCell_row h o v)
theorem other_setCells {g k : Nat} (hne : k ≠ g) : ∀ (vs : List Value) (o : Nat) (W : World), (W.setCells g o vs).heap[k]? = W.heap[k]?
  | [], _, _ => rfl
  | v :: vs, o, W => (other_setCells hne vs (o + 1) (W.setCell ⟨g, o, none⟩ v)).trans (Go.Deep.blk_setCell_other _ _ _ _ hne)
theorem far_setCells {v : Value} {L : List A2} {g : Nat} (hne : ∀ b, v.blockOf = some b → b ≠ g) : ∀ (vs : List Value) (o : Nat) (W : World), AttsS W v L → AttsS (W.setCells g o vs) v L
  | [], _, _, h => h
  | x :: vs, o, W, h => far_setCells hne vs (o + 1) (W.setCell ⟨g, o, none⟩ x) (far_atts h g hne o x)
/-- both results, cell for cell -/
def W13 (W : World) (g : Nat) (l u m v e : ByteArray) (x : Value) (P C G : ByteArray) (q0 q1 q2 q3 : Value) : World :=
  (((((((((((((W.setCell ⟨g, 0, none⟩ (.string l)).setCell ⟨g, 1, none⟩ (.string u)).setCell ⟨g, 2, none⟩ (.string m)).setCell ⟨g, 3, none⟩ (.string v)).setCell ⟨g, 4, none⟩ (.string e)).setCell ⟨g, 5, none⟩ x).setCell ⟨g, 6, none⟩ (.string P)).setCell ⟨g, 7, none⟩ (.string C)).setCell ⟨g, 8, none⟩ (.string G)).setCell ⟨g + 1, 0, none⟩ q0).setCell ⟨g + 1, 1, none⟩ q1).setCell ⟨g + 1, 2, none⟩ q2).setCell ⟨g + 1, 3, none⟩ q3).drew
theorem W13.facts {w W : World} {B : Array Value} (h : SP w B W) (l u m v e : ByteArray) (x : Value) (P C G : ByteArray) (q0 q1 q2 q3 : Value) {L : List A2} (hx : AttsS W x L) (hne : ∀ b, x.blockOf = some b → b ≠ w.heap.size ∧ b ≠ w.heap.size + 1) :
    (W13 W w.heap.size l u m v e x P C G q0 q1 q2 q3).heap[w.heap.size]? = some (.cells (C9 l u m v e x P C G) 94 (0, 0)) ∧ (W13 W w.heap.size l u m v e x P C G q0 q1 q2 q3).heap[w.heap.size + 1]? = some (.cells #[q0, q1, q2, q3] 114 (0, 0)) ∧ AttsS (W13 W w.heap.size l u m v e x P C G q0 q1 q2 q3) x L ∧ Since w (W13 W w.heap.size l u m v e x P C G q0 q1 q2 q3) := by
  have e1 : W13 W w.heap.size l u m v e x P C G q0 q1 q2 q3 = ((W.setCells w.heap.size 0 [.string l, .string u, .string m, .string v, .string e, x, .string P, .string C, .string G]).setCells (w.heap.size + 1) 0 [q0, q1, q2, q3]).drew := rfl
  rw [e1]
  have a1 := row_setCells [.string l, .string u, .string m, .string v, .string e, x, .string P, .string C, .string G] 0 W Z9 h.r2
  have a2 : setA Z9 0 [.string l, .string u, .string m, .string v, .string e, x, .string P, .string C, .string G] = C9 l u m v e x P C G := by simp [setA, Z9, C9]
  rw [a2] at a1
  obtain ⟨X, hX⟩ : ∃ X, W.setCells w.heap.size 0 [.string l, .string u, .string m, .string v, .string e, x, .string P, .string C, .string G] = X := ⟨_, rfl⟩
  have a3 : X.heap[w.heap.size + 1]? = some (.cells Z4 114 (0, 0)) := by rw [← hX]; exact (other_setCells (by omega) _ _ _).trans h.r3
  have a4 : AttsS X x L := by rw [← hX]; exact far_setCells (fun b hb => (hne b hb).1) _ _ _ hx
  have a5 : Since w X := by rw [← hX]; exact below_setCells (Nat.le_refl _) _ _ _ h.since
  rw [hX] at a1 ⊢
  clear hX e1 a2
  have b1 := row_setCells [q0, q1, q2, q3] 0 X Z4 a3
  have b2 : setA Z4 0 [q0, q1, q2, q3] = #[q0, q1, q2, q3] := by simp [setA, Z4]
  rw [b2] at b1
  have b3 : (X.setCells (w.heap.size + 1) 0 [q0, q1, q2, q3]).heap[w.heap.size]? = some (.cells (C9 l u m v e x P C G) 94 (0, 0)) := (other_setCells (by omega) _ _ _).trans a1
  have b4 : AttsS (X.setCells (w.heap.size + 1) 0 [q0, q1, q2, q3]) x L := far_setCells (fun b hb => (hne b hb).2) _ _ _ a4
  have b5 : Since w (X.setCells (w.heap.size + 1) 0 [q0, q1, q2, q3]) := below_setCells (by omega) _ _ _ a5
  generalize X.setCells (w.heap.size + 1) 0 [q0, q1, q2, q3] = Y at b1 b3 b4 b5 ⊢
  exact ⟨b3, b1, b4.since (Below.drew (Below.refl _ _)), b5.drew⟩
/-- a call that takes a block apart -/
def PostS (w : World) (l u m v e : ByteArray) (L : List A2) (P C G : ByteArray) (D M Z : Nat) (x : Ending) (w' : World) : Prop :=
  ∃ a, x = .returned (.tuple #[.agg (C9 l u m v e a P C G), .agg (CX D M Z), .int .i64 0]) ∧ AttsS w' a L ∧ Fresh w.heap.size a ∧ Below w.heap.size w w'
theorem far_rows {W : World} {v : Value} {L : List A2} (h : AttsS W v L) (g : Nat) (hne : ∀ b, v.blockOf = some b → b ≠ g) (C : Array Value) : AttsS (W.setRow g C) v L := by
  obtain ⟨h1, A, c, rfl, h2, h3, h4⟩ := h
  refine ⟨h1, A, c, rfl, h2, h3, ?_⟩
  rcases h4 with h4 | ⟨b, o, rfl, hlt, hc⟩
  · exact Or.inl h4
  · have hb := hne b rfl
    have ho := setRow_other W g b C hb
    refine Or.inr ⟨b, o, rfl, ?_, fun j u hu => ?_⟩
    · rcases Nat.lt_or_ge b (W.setRow g C).heap.size with h | h
      · exact h
      · rw [Array.getElem?_eq_none h, Array.getElem?_eq_getElem hlt] at ho; cases ho
    · rw [World.cell?_of_block (w := W) (w' := W.setRow g C) (show (W.setRow g C).heap[b]? = W.heap[b]? from ho)]
      exact hc j u hu
set_option maxRecDepth 100000 in
set_option maxHeartbeats 32000000 in
theorem spl_ok (s T : ByteArray) (h16 : (16 : Int) ≤ (s.size : Int)) (_h16' : 16 ≤ s.size) (hz : s.size ≤ 60000) (hT' : s.extract 16 s.size = T) (n k : Int) (l u m v e : ByteArray) (c1 : KMk KH 99 #[.string s] (.tuple #[.agg #[.int .i64 n, .string l, .int .i64 k, .string u, .string m, .string v, .string e], .int .i64 0]))
    (O : List Opt.P2) (N D M : Nat) (hN : ((N : Int) + 16) = (D : Int)) (hD0 : (0 : Int) ≤ (D : Int)) (hD : (D : Int) ≤ (s.size : Int)) (c2 : Opt.MkO 100 #[.string T, .int .i64 k] O (N : Int) 0) (L : List A2) (c3 : MkF 101 O L 0)
    (P R C G : ByteArray) (hP : s.extract 0 D = P) (hR : s.extract D s.size = R) (c4 : Mak 102 #[.string R] (.tuple #[.string C, .string G, .int .i64 0])) (hM : (s.size : Int) - 32 = (M : Int)) (hDM : D ≤ M) : ∀ w, KH w → Calls Tryd.prog 88 #[.string s] w (PostS w l u m v e L P C G D M s.size) := by
  intro w hT
  have s1 : Ret 103 #[.int .i64 0, .int .i64 16] (.complex .f64 (Flt.fl 0) (Flt.fl 16)) := Span.of_yes 0 16 ⟨by omega, by omega⟩
  have s2 : Ret 103 #[.int .i64 16, .int .i64 (D : Int)] (.complex .f64 (Flt.fl 16) (Flt.fl (D : Int))) := Span.of_yes 16 D ⟨by omega, by omega⟩
  have s3 : Ret 103 #[.int .i64 (D : Int), .int .i64 (M : Int)] (.complex .f64 (Flt.fl (D : Int)) (Flt.fl (M : Int))) := Span.of_yes D M ⟨by omega, by omega⟩
  have s4 : Ret 103 #[.int .i64 (M : Int), .int .i64 (s.size : Int)] (.complex .f64 (Flt.fl (M : Int)) (Flt.fl (s.size : Int))) := Span.of_yes M s.size ⟨by omega, by omega⟩
  have hs := Lib.hid (sp_new w hT)
  have HS := Lib.hid hs.out.since
  have HT0 := Lib.hid hT
  unfold Z9 Z4 at hs HS
  clear hT
  go_enter Tryd.func88, Tryd.ntmps88
  go_wp2_with fail
  refine wp_scope_some 1 ?_
  go_wp2_with fail
  refine (c1.calls0 hs.out.tabs) ?_
  intro w1 h1
  replace hs := Lib.hid (hs.out.step (by first | exact h1 | exact (Since.alloc (Since.refl _) _).step h1 | exact (Since.alloc (Since.alloc (Since.refl _) _) _).step h1 | exact (Since.drew (Since.refl _)).step h1 | exact (Since.alloc (Since.alloc (Since.alloc (Since.refl _) _) _) _).step h1))
  replace HS := Lib.hid (HS.out.step (by first | exact h1 | exact (Since.alloc (Since.refl _) _).step h1 | exact (Since.alloc (Since.alloc (Since.refl _) _) _).step h1 | exact (Since.drew (Since.refl _)).step h1 | exact (Since.alloc (Since.alloc (Since.alloc (Since.refl _) _) _) _).step h1))
  clear h1
  have hlt : w.heap.size + 1 + 1 < w1.heap.size := (Array.getElem?_eq_some_iff.1 hs.out.rf).1
  obtain ⟨W2, hW2⟩ : ∃ W2, W2 = w1.alloc (.cells #[.int .i64 n, .string l, .int .i64 k, .string u, .string m, .string v, .string e] 138) := ⟨_, rfl⟩
  have hp2 : Hid (HB w1 KT w1.heap.size #[.int .i64 n, .string l, .int .i64 k, .string u, .string m, .string v, .string e] W2) := Lib.hid (by rw [hW2]; exact hb_new w1 KT trivial _ _)
  replace hs : Hid (SP w _ W2) := Lib.hid (by rw [hW2]; exact hs.out.step ((Below.refl _ _).alloc (Nat.le_refl _) _))
  have f0 := row_cell? hs.out.rf 0 _ rfl
  have f1 := row_cell? hs.out.rf 1 _ rfl
  have f2 := row_cell? hs.out.rf 2 _ rfl
  have f3 := row_cell? hs.out.rf 3 _ rfl
  have f4 := row_cell? hs.out.rf 4 _ rfl
  have g0 := row_free hs.out.rf 0
  have g1 := row_free hs.out.rf 1
  have g2 := row_free hs.out.rf 2
  have g3 := row_free hs.out.rf 3
  have g4 := row_free hs.out.rf 4
  obtain ⟨_, q0, q1, q2, q3, q4, q5, q6⟩ := hb7 hp2
  have q9 := W6.far q2 (show w1.heap.size ≠ w.heap.size + 1 + 1 by omega) l u m v e
  have hs3 := Lib.hid (W6.sp hs.out HT0.out l u m v e)
  go_wp2_with fail
  rw [← hW2]
  clear hW2 HS
  go_region
  clear f0 f1 f2 f3 f4 g0 g1 g2 g3 g4 q0 q1 q2 q3 q4 q5 q6 hs hp2
  obtain ⟨W3, hW3⟩ : ∃ W3, W3 = W6 W2 (w.heap.size + 1 + 1) l u m v e := ⟨_, rfl⟩
  rw [← hW3] at hs3 q9
  unfold W6 at hW3
  rw [← hW3]
  clear hW3
  have hs := hs3
  have HS := Lib.hid hs.out.since
  clear hs3
  go_wp2_with fail
  go_region_law (go_simp; go_at_call 100; refine c2.calls0 ?_; intro o w4 ho h4; replace hs := Lib.hid (hs.out.step (by first | exact h4 | exact Since.step (Since.drew (Since.refl _)) h4)); replace HS := Lib.hid hs.out.since; have HO := Lib.hid ho; clear ho h4 q9)
  all_goals
    go_simp
    go_wp2_with fail
    refine c3.calls1 HO.out ?_
    intro a w5 ha h5
    have hfr := Lib.hid (show ∀ b, a.blockOf = some b → b ≠ w.heap.size + 1 + 1 from fresh_ne ha.2 (Array.getElem?_eq_some_iff.1 hs.out.rf).1)
    have hfq := Lib.hid (show ∀ b, a.blockOf = some b → b ≠ w.heap.size ∧ b ≠ w.heap.size + 1 from fun b hb => ⟨fresh_ne ha.2 (Array.getElem?_eq_some_iff.1 hs.out.r2).1 b hb, fresh_ne ha.2 (Array.getElem?_eq_some_iff.1 hs.out.r3).1 b hb⟩)
    have hfz := Lib.hid (show Fresh w.heap.size a from fun A' l' c' e' => Nat.le_trans (Below.size HS.out) (ha.2 A' l' c' e'))
    replace hs := Lib.hid (hs.out.step h5)
    have HA := Lib.hid ha.1
    obtain ⟨A, d, hav, _⟩ := ha.1.slice
    have f5 := row_cell? hs.out.rf 5 _ rfl
    have g5 := row_free hs.out.rf 5
    have hs6 := Lib.hid (hs.out.set HT0.out 5 a (C9 l u m v e a ⟨#[]⟩ ⟨#[]⟩ ⟨#[]⟩) (by simp [C9]))
    clear ha h5 HS HO
    subst hav
    have f6 := row_cell? hs.out.rf 6 _ rfl
    have g6 := row_free hs.out.rf 6
    have hs7 := Lib.hid (hs6.out.set HT0.out 6 (.string P) (C9 l u m v e (.slice A L.length d) P ⟨#[]⟩ ⟨#[]⟩) (by simp [C9]))
    have HA7 := Lib.hid (far_atts (far_atts HA.out (w.heap.size + 1 + 1) hfr.out 5 (.slice A L.length d)) (w.heap.size + 1 + 1) hfr.out 6 (.string P))
    clear HA hs hs6
    go_wp2_with fail
    refine c4.calls0 ?_
    intro w6 h6
    have hs := Lib.hid (hs7.out.step h6)
    have HA := Lib.hid (HA7.out.since h6)
    clear hs7 HA7 f5 g5 f6 g6 h6
    have f7 := row_cell? hs.out.rf 7 _ rfl
    have g7 := row_free hs.out.rf 7
    have f8 := row_cell? hs.out.rf 8 _ rfl
    have g8 := row_free hs.out.rf 8
    have hs8 := Lib.hid ((hs.out.set HT0.out 7 (.string C) (C9 l u m v e (.slice A L.length d) P C ⟨#[]⟩) (by simp [C9])).set HT0.out 8 (.string G) (C9 l u m v e (.slice A L.length d) P C G) (by simp [C9]))
    have HA8 := Lib.hid (far_atts (far_atts HA.out (w.heap.size + 1 + 1) hfr.out 7 (.string C)) (w.heap.size + 1 + 1) hfr.out 8 (.string G))
    go_wp2_with fail
    clear hs HA f7 g7 f8 g8
    obtain ⟨W4, hW4⟩ : ∃ W4, W4 = (w6.setCell ⟨w.heap.size + 1 + 1, 7, none⟩ (.string C)).setCell ⟨w.heap.size + 1 + 1, 8, none⟩ (.string G) := ⟨_, rfl⟩
    rw [← hW4] at hs8 HA8 ⊢
    clear hW4
    have hs := hs8
    have k0 : W4.cell? ⟨w.heap.size + 1 + 1, 0, none⟩ = some (.string l) := row_cell? hs.out.rf 0 _ rfl
    have k1 : W4.cell? ⟨w.heap.size + 1 + 1, 1, none⟩ = some (.string u) := row_cell? hs.out.rf 1 _ rfl
    have k2 : W4.cell? ⟨w.heap.size + 1 + 1, 2, none⟩ = some (.string m) := row_cell? hs.out.rf 2 _ rfl
    have k3 : W4.cell? ⟨w.heap.size + 1 + 1, 3, none⟩ = some (.string v) := row_cell? hs.out.rf 3 _ rfl
    have k4 : W4.cell? ⟨w.heap.size + 1 + 1, 4, none⟩ = some (.string e) := row_cell? hs.out.rf 4 _ rfl
    have k5 : W4.cell? ⟨w.heap.size + 1 + 1, 5, none⟩ = some (.slice A L.length d) := row_cell? hs.out.rf 5 _ rfl
    have k6 : W4.cell? ⟨w.heap.size + 1 + 1, 6, none⟩ = some (.string P) := row_cell? hs.out.rf 6 _ rfl
    have k7 : W4.cell? ⟨w.heap.size + 1 + 1, 7, none⟩ = some (.string C) := row_cell? hs.out.rf 7 _ rfl
    have k8 : W4.cell? ⟨w.heap.size + 1 + 1, 8, none⟩ = some (.string G) := row_cell? hs.out.rf 8 _ rfl
    have a0 := row_cell? hs.out.r2 0 _ rfl
    have b0 := row_free hs.out.r2 0
    have a1 := row_cell? hs.out.r2 1 _ rfl
    have b1 := row_free hs.out.r2 1
    have a2 := row_cell? hs.out.r2 2 _ rfl
    have b2 := row_free hs.out.r2 2
    have a3 := row_cell? hs.out.r2 3 _ rfl
    have b3 := row_free hs.out.r2 3
    have a4 := row_cell? hs.out.r2 4 _ rfl
    have b4 := row_free hs.out.r2 4
    have a5 := row_cell? hs.out.r2 5 _ rfl
    have b5 := row_free hs.out.r2 5
    have a6 := row_cell? hs.out.r2 6 _ rfl
    have b6 := row_free hs.out.r2 6
    have a7 := row_cell? hs.out.r2 7 _ rfl
    have b7 := row_free hs.out.r2 7
    have a8 := row_cell? hs.out.r2 8 _ rfl
    have b8 := row_free hs.out.r2 8
    have x0 := row_cell? hs.out.r3 0 _ rfl
    have y0 := row_free hs.out.r3 0
    have x1 := row_cell? hs.out.r3 1 _ rfl
    have y1 := row_free hs.out.r3 1
    have x2 := row_cell? hs.out.r3 2 _ rfl
    have y2 := row_free hs.out.r3 2
    have x3 := row_cell? hs.out.r3 3 _ rfl
    have y3 := row_free hs.out.r3 3
    have hs0 := hs
    clear hs hs8
    go_region_law (first
      | (go_simp; go_at_call 103; with_reducible refine s1.calls ?_)
      | (go_simp; go_at_call 103; with_reducible refine s2.calls ?_)
      | (go_simp; go_at_call 103; with_reducible refine s3.calls ?_)
      | (go_simp; go_at_call 103; with_reducible refine s4.calls ?_))
    all_goals
      go_simp
      go_wp2_with fail
      have hfin := W13.facts hs0.out l u m v e (.slice A L.length d) P C G (.complex .f64 (Flt.fl 0) (Flt.fl 16)) (.complex .f64 (Flt.fl 16) (Flt.fl (D : Int))) (.complex .f64 (Flt.fl (D : Int)) (Flt.fl (M : Int))) (.complex .f64 (Flt.fl (M : Int)) (Flt.fl (s.size : Int))) HA8.out hfq.out
      obtain ⟨y1, y2, y3, y4⟩ := hfin
      simp only [Exit.jumps]
      exact bodyPost_ret (v := .tuple #[.agg (C9 l u m v e (.slice A L.length d) P C G), .agg (CX D M s.size), .int .i64 0]) (results_cc_tmp Tryd.results88 _ _ _ _ _ _ _ _ _ _ _ _ _ rfl rfl rfl y1 y2 Tryd.underlying94 rfl (c9_info _ _ _ _ _ _ _ _ _) Tryd.underlying114 rfl (cx_info _ _ _)) rfl ⟨_, rfl, y3, hfz.out, y4⟩
end Frame
end Go.Proofs.YtgfdomdbjiflmaaDoor

/- Package frame: what is taken apart, whole; Cut. -/
namespace Go.Proofs.YtgfdomdbjiflmaaDoor
open Go.RowKit
namespace Frame
open Att Templ Header
def cutK (s : ByteArray) : Int := (Dig.numD (s.extract 12 14).data.toList : Int)
def cutT (s : ByteArray) : ByteArray := s.extract 16 s.size
def cutO (s : ByteArray) : List Opt.P2 := Opt.unpL (cutT s) (cutK s)
def cutD (s : ByteArray) : Nat := 16 + (Opt.unpN (cutT s) (cutK s)).toNat
def cutR (s : ByteArray) : List UInt8 := (s.extract (cutD s) s.size).data.toList
def cutE (s : ByteArray) : Int := if begE s ≠ 0 then begE s else if Opt.unpE (cutT s) (cutK s) ≠ 0 then Opt.unpE (cutT s) (cutK s) else if fE (cutO s) ≠ 0 then fE (cutO s) else selE (cutR s)
theorem beg_ok0 (s : ByteArray) (h : begE s = 0) : 16 ≤ s.size ∧ s.size ≤ 9999 ∧ Header.decV s = C7 (Dig.numD (s.extract 1 5).data.toList : Int) (cutK s) (s.extract 7 8) (s.extract 5 7) (s.extract 8 9) (s.extract 9 11) (s.extract 11 12) ∧ Header.Form s ∧ Header.okS s = true ∧ Dig.numD (s.extract 1 5).data.toList = s.size := by
  unfold begE at h
  by_cases h0 : s.size = 0
  · rw [if_pos h0] at h; cases h
  by_cases h9 : 9999 < s.size
  · rw [if_neg h0, if_pos h9] at h; cases h
  rw [if_neg h0, if_neg h9] at h
  by_cases hE : Header.decE s = 0
  · rw [if_neg (fun h2 => h2 hE)] at h
    by_cases hn : Dig.numD (s.extract 1 5).data.toList = s.size
    · rcases dec_cases s with ⟨h2, _⟩ | ⟨_, hF, hk⟩
      · exact absurd hE h2
      · exact ⟨hF.1, by omega, if_pos ⟨hF, hk⟩, hF, hk, hn⟩
    · rw [if_pos hn] at h; cases h
  · rw [if_pos hE] at h; exact absurd h hE
theorem unp_bounds (s : ByteArray) (m : Int) (h : Opt.unpE s m = 0) : 0 ≤ Opt.unpN s m ∧ Opt.unpN s m ≤ s.size ∧ ∀ p ∈ Opt.unpL s m, p.2.size ≤ s.size := by
  cases hu : Opt.unpOk s m with
  | none => rw [(Opt.unp_no s m hu).2.2] at h; cases h
  | some q =>
    obtain ⟨L, A⟩ := q
    obtain ⟨e1, e2, e3⟩ := Opt.unp_yes s m L A hu
    rw [e1, e2]
    obtain ⟨_, _, _, h4, _, h6⟩ := Opt.unp_some s m L A hu
    exact ⟨by omega, by omega, fun p hp => (h6 p hp).2⟩
theorem unp_e (s : ByteArray) (m : Int) : Opt.unpE s m = 0 ∨ (Opt.unpE s m = 5 ∧ Opt.unpL s m = []) := by
  cases hu : Opt.unpOk s m with
  | none => exact Or.inr ⟨(Opt.unp_no s m hu).2.2, (Opt.unp_no s m hu).1⟩
  | some q => exact Or.inl (Opt.unp_yes s m q.1 q.2 hu).2.2
theorem sel_bounds (t : List UInt8) (h : selE t = 0) : 64 ≤ t.length := by
  unfold selE at h
  split at h
  · rename_i hk
    unfold okT at hk
    simp only [Bool.and_eq_true, decide_eq_true_eq] at hk
    have := unS_le t
    omega
  · cases h
theorem split_bad (s : ByteArray) (hm : s.size ≤ 60000) (h : cutE s ≠ 0) : KMk KH 88 #[.string s] (noF (cutE s)) := by
  have c1 := begin_k s (by omega)
  unfold cutE at h ⊢
  by_cases hb : begE s = 0
  · obtain ⟨h16, h9, hv, hF, hk, hn⟩ := beg_ok0 s hb
    rw [if_neg (fun h2 => h2 hb)] at h ⊢
    rw [hb, show begV s = Header.decV s from if_pos hb, hv] at c1
    have hTs : (cutT s).size ≤ 60000 := by unfold cutT; rw [ByteArray.size_extract]; omega
    have c2 := Opt.unpack_any (cutT s) (by omega) (cutK s) _ _ _ rfl rfl rfl
    by_cases hu : Opt.unpE (cutT s) (cutK s) = 0
    · rw [if_neg (fun h2 => h2 hu)] at h ⊢
      obtain ⟨u1, u2, u3⟩ := unp_bounds _ _ hu
      rw [hu] at c2
      have c3 := from_mk (cutO s) (fun p hp => by have := u3 p hp; omega) decode_mk
      by_cases hf : fE (cutO s) = 0
      · rw [if_neg (fun h2 => h2 hf)] at h ⊢
        rw [hf] at c3
        have hN : Opt.unpN (cutT s) (cutK s) = ((Opt.unpN (cutT s) (cutK s)).toNat : Int) := by omega
        have hTz : (cutT s).size = s.size - 16 := by unfold cutT; rw [ByteArray.size_extract]; omega
        have c4 := sealed_mak (s.extract (cutD s) s.size) (by rw [ByteArray.size_extract]; omega)
        rw [hN] at c2
        unfold selV at c4
        exact spl_s s (cutT s) (by omega) h16 (by omega) rfl _ _ _ _ _ _ _ c1 _ (Opt.unpN (cutT s) (cutK s)).toNat (cutD s) (by unfold cutD; omega) (by omega) (by unfold cutD; omega) c2 _ c3 _ _ _ _ rfl rfl _ (beq_eq_false_iff_ne.2 h) c4
      · rw [if_pos hf] at h ⊢
        exact spl_f s (cutT s) (by omega) h16 rfl _ _ _ _ _ _ _ c1 _ _ c2 _ _ (beq_eq_false_iff_ne.2 hf) c3
    · rw [if_pos hu] at h ⊢
      exact spl_u s (cutT s) (by omega) h16 rfl _ _ _ _ _ _ _ c1 _ _ _ (beq_eq_false_iff_ne.2 hu) c2
  · rw [if_pos hb] at h ⊢
    rw [show begV s = Z7 from if_neg hb] at c1
    exact spl_b s Z7 _ (beq_eq_false_iff_ne.2 hb) 0 0 _ _ _ _ _ c1
theorem cut_facts (s : ByteArray) (h : cutE s = 0) : begE s = 0 ∧ Opt.unpE (cutT s) (cutK s) = 0 ∧ fE (cutO s) = 0 ∧ selE (cutR s) = 0 := by
  unfold cutE at h
  by_cases hb : begE s = 0
  · rw [if_neg (fun h2 => h2 hb)] at h
    by_cases hu : Opt.unpE (cutT s) (cutK s) = 0
    · rw [if_neg (fun h2 => h2 hu)] at h
      by_cases hf : fE (cutO s) = 0
      · rw [if_neg (fun h2 => h2 hf)] at h
        exact ⟨hb, hu, hf, h⟩
      · rw [if_pos hf] at h; exact absurd h hf
    · rw [if_pos hu] at h; exact absurd h hu
  · rw [if_pos hb] at h; exact absurd h hb
theorem cut_sizes (s : ByteArray) (h : cutE s = 0) : 16 ≤ cutD s ∧ cutD s + 64 ≤ s.size ∧ s.size ≤ 9999 ∧ Opt.unpN (cutT s) (cutK s) = ((Opt.unpN (cutT s) (cutK s)).toNat : Int) := by
  obtain ⟨h1, h2, h3, h4⟩ := cut_facts s h
  obtain ⟨h16, h9, hv, hF, hk, hn⟩ := beg_ok0 s h1
  obtain ⟨u1, u2, u3⟩ := unp_bounds _ _ h2
  have h5 := sel_bounds _ h4
  have hl : (cutR s).length = s.size - cutD s := by
    have : (cutR s).length = (s.extract (cutD s) s.size).size := rfl
    rw [this, ByteArray.size_extract]; omega
  have hTz : (cutT s).size = s.size - 16 := by unfold cutT; rw [ByteArray.size_extract]; omega
  refine ⟨by unfold cutD; omega, by omega, h9, by omega⟩
set_option maxRecDepth 100000 in
theorem split_ok (s : ByteArray) (h : cutE s = 0) : ∀ w, KH w → Calls Tryd.prog 88 #[.string s] w (PostS w (s.extract 7 8) (s.extract 5 7) (s.extract 8 9) (s.extract 9 11) (s.extract 11 12) (fL (cutO s)) (s.extract 0 (cutD s)) (selC (cutR s)) (selT (cutR s)) (cutD s) (s.size - 32) s.size) := by
  obtain ⟨h1, h2, h3, h4⟩ := cut_facts s h
  obtain ⟨d1, d2, d3, d4⟩ := cut_sizes s h
  obtain ⟨h16, h9, hv, hF, hk, hn⟩ := beg_ok0 s h1
  obtain ⟨u1, u2, u3⟩ := unp_bounds _ _ h2
  have c1 := begin_k s (by omega)
  rw [h1, show begV s = Header.decV s from if_pos h1, hv] at c1
  have hTz : (cutT s).size = s.size - 16 := by unfold cutT; rw [ByteArray.size_extract]; omega
  have c2 := Opt.unpack_any (cutT s) (by omega) (cutK s) _ _ _ rfl rfl rfl
  rw [h2, d4] at c2
  have c3 := from_mk (cutO s) (fun p hp => by have := u3 p hp; omega) decode_mk
  rw [h3] at c3
  have c4 := sealed_mak (s.extract (cutD s) s.size) (by rw [ByteArray.size_extract]; omega)
  unfold selV at c4
  have h4' : selE (s.extract (cutD s) s.size).data.toList = 0 := h4
  rw [h4'] at c4
  exact spl_ok s (cutT s) (by omega) h16 (by omega) rfl _ _ _ _ _ _ _ c1 _ (Opt.unpN (cutT s) (cutK s)).toNat (cutD s) (s.size - 32) (by unfold cutD; omega) (by omega) (by omega) c2 _ c3 _ _ _ _ rfl rfl c4 (by omega) (by omega)
/-- what Cut answers -/
def PostC (w : World) (s : ByteArray) (x : Ending) (w' : World) : Prop :=
  ∃ a, x = .returned (.tuple #[.agg (C9 (s.extract 7 8) (s.extract 5 7) (s.extract 8 9) (s.extract 9 11) (s.extract 11 12) a (s.extract 0 (cutD s)) (selC (cutR s)) (selT (cutR s))), .int .i64 0]) ∧ AttsS w' a (fL (cutO s)) ∧ Below w.heap.size w w'
set_option maxRecDepth 100000 in
set_option maxHeartbeats 4000000 in
theorem cut_bad (s : ByteArray) (E : Int) (c1 : KMk KH 88 #[.string s] (noF E)) : KMk KH 71 #[.string s] (.tuple #[.agg Z9, .int .i64 E]) := by
  intro w hT
  have hr : Hid (HR w w.heap.size Z9 94 (w.alloc (.cells Z9 94))) := Lib.hid ⟨heap_alloc_new w _⟩
  have HS : Hid (Since w (w.alloc (.cells Z9 94))) := Lib.hid ((Since.refl w).alloc _)
  have HT : Hid (KH (w.alloc (.cells Z9 94))) := Lib.hid (Kp.keep hT ((Below.refl _ w).alloc (Nat.le_refl _) _))
  have hr' := hr
  have HS' := HS
  unfold Z9 at hr' HS' HT
  unfold noF Z9 Z4 at c1
  clear hT
  go_enter Tryd.func71, Tryd.ntmps71
  go_wp2_with fail
  refine (c1.calls0 HT.out) ?_
  intro w1 h1
  replace hr := Lib.hid (hr.out.step h1)
  replace HS := Lib.hid (HS.out.step h1)
  clear h1 HT hr' HS'
  have hr2 : Hid (HR w w.heap.size Z9 94 ((w1.alloc (.cells (Z9) 94)).alloc (.cells (Z4) 114))) := Lib.hid (hr_old (hr_old hr.out _) _)
  have HS2 := Lib.hid ((HS.out.alloc (.cells (Z9) 94)).alloc (.cells (Z4) 114))
  clear hr HS
  unfold Z9 Z4 at hr2 HS2
  go_wp2_with (refine wpList_store_row rfl 94 _ _ rfl w.heap.size (Z9) (by rfl) (by rfl) _ _ hr2.out.row (z9_info) rfl (z9_one) ?_)
  exact bodyPost_ret (v := .tuple #[.agg Z9, .int .i64 E]) (results_cell_tmp2 Tryd.results71 _ _ _ _ _ _ _ _ rfl rfl (setRow_heap _ _ _ _ _ _ hr2.out.row) Tryd.underlying94 rfl z9_info) rfl ⟨rfl, below_setRow HS2.out (Nat.le_refl _) _⟩
set_option maxRecDepth 100000 in
set_option maxHeartbeats 4000000 in
theorem cut_good (s : ByteArray) (h : cutE s = 0) : ∀ w, KH w → Calls Tryd.prog 71 #[.string s] w (PostC w s) := by
  intro w hT
  have c1 := split_ok s h
  unfold PostC
  obtain ⟨l, hl⟩ : ∃ l, s.extract 7 8 = l := ⟨_, rfl⟩
  obtain ⟨u, hu⟩ : ∃ l, s.extract 5 7 = l := ⟨_, rfl⟩
  obtain ⟨m, hm⟩ : ∃ l, s.extract 8 9 = l := ⟨_, rfl⟩
  obtain ⟨v, hv⟩ : ∃ l, s.extract 9 11 = l := ⟨_, rfl⟩
  obtain ⟨e, he⟩ : ∃ l, s.extract 11 12 = l := ⟨_, rfl⟩
  obtain ⟨P, hP⟩ : ∃ l, s.extract 0 (cutD s) = l := ⟨_, rfl⟩
  obtain ⟨C, hC⟩ : ∃ l, selC (cutR s) = l := ⟨_, rfl⟩
  obtain ⟨G, hG⟩ : ∃ l, selT (cutR s) = l := ⟨_, rfl⟩
  obtain ⟨L, hL⟩ : ∃ l, fL (cutO s) = l := ⟨_, rfl⟩
  obtain ⟨D, hD⟩ : ∃ l, cutD s = l := ⟨_, rfl⟩
  obtain ⟨M, hM⟩ : ∃ l, s.size - 32 = l := ⟨_, rfl⟩
  rw [hD] at hP
  rw [hD, hM, hl, hu, hm, hv, he, hP, hC, hG, hL] at c1
  rw [hD, hl, hu, hm, hv, he, hP, hC, hG, hL]
  clear hl hu hm hv he hP hC hG hL hD hM h
  have hr : Hid (HR w w.heap.size Z9 94 (w.alloc (.cells Z9 94))) := Lib.hid ⟨heap_alloc_new w _⟩
  have HS : Hid (Since w (w.alloc (.cells Z9 94))) := Lib.hid ((Since.refl w).alloc _)
  have HT : Hid (KH (w.alloc (.cells Z9 94))) := Lib.hid (Kp.keep hT ((Below.refl _ w).alloc (Nat.le_refl _) _))
  have HC := Lib.hid c1
  unfold Z9 at HT
  clear hT c1
  go_enter Tryd.func71, Tryd.ntmps71
  go_wp2_with fail
  refine (HC.out _ HT.out).mono ?_
  rintro x w1 ⟨a, rfl, ha, hf, h1⟩
  replace hr := Lib.hid (hr.out.step h1)
  replace HS := Lib.hid (HS.out.step h1)
  have hlt : w.heap.size < (w.alloc (.cells Z9 94)).heap.size := by simp
  have hne : Hid (∀ b, a.blockOf = some b → b ≠ w.heap.size) := Lib.hid (fresh_ne hf hlt)
  have HA := Lib.hid (far_rows ((ha.since ((Since.refl _).alloc (.cells (C9 l u m v e a P C G) 94))).since ((Since.refl _).alloc (.cells (CX D M s.size) 114))) w.heap.size hne.out (C9 l u m v e a P C G))
  obtain ⟨A, d, hav, _⟩ := ha.slice
  subst hav
  clear h1 HT ha hf hlt HC
  unfold C9 CX
  have hr2 : Hid (HR w w.heap.size Z9 94 ((w1.alloc (.cells (C9 l u m v e (.slice A L.length d) P C G) 94)).alloc (.cells (CX D M s.size) 114))) := Lib.hid (hr_old (hr_old hr.out _) _)
  have HS2 := Lib.hid ((HS.out.alloc (.cells (C9 l u m v e (.slice A L.length d) P C G) 94)).alloc (.cells (CX D M s.size) 114))
  clear hr HS
  unfold Z9 C9 CX at hr2 HS2
  go_wp2_with (refine wpList_store_row rfl 94 _ _ rfl w.heap.size (C9 l u m v e (.slice A L.length d) P C G) (by rfl) (by rfl) _ _ hr2.out.row (c9_info _ _ _ _ _ _ _ _ _) rfl (c9_one _ _ _ _ _ _ _ _ _ _ _) ?_)
  exact bodyPost_ret (v := .tuple #[.agg (C9 l u m v e (.slice A L.length d) P C G), .int .i64 0]) (results_cell_tmp2 Tryd.results71 _ _ _ _ _ _ _ _ rfl rfl (setRow_heap _ _ _ _ _ _ hr2.out.row) Tryd.underlying94 rfl (c9_info _ _ _ _ _ _ _ _ _)) rfl ⟨_, rfl, HA.out, below_setRow HS2.out (Nat.le_refl _) _⟩
end Frame
end Go.Proofs.YtgfdomdbjiflmaaDoor

/- Package frame: what is put together is cut as it was; what is cut, put together again, is what it was: plain mathematics. -/
namespace Go.Proofs.YtgfdomdbjiflmaaDoor
open Go.RowKit
namespace Frame
open Att Templ Header
theorem sign_data : ∀ d : Fin 16, Opt.dataN (Dig.sign d.1).toNat = true := by decide
theorem hex_data (l : List UInt8) : Opt.allB Opt.dataN (Dig.hexL l) = true := by
  induction l with
  | nil => rfl
  | cons c l ih =>
    have hc := c.toNat_lt
    have e : Dig.hexL (c :: l) = Dig.sign (c.toNat / 16) :: Dig.sign (c.toNat % 16) :: Dig.hexL l := rfl
    have h1 := sign_data ⟨c.toNat / 16, by omega⟩
    have h2 := sign_data ⟨c.toNat % 16, by omega⟩
    rw [e]
    unfold Opt.allB at ih ⊢
    rw [List.all_cons, List.all_cons, ih]
    simp only at h1 h2
    rw [h1, h2]; rfl
theorem may_ten (L : List A2) (h : (encT L).size ≤ 9000) : Opt.may TEN (encT L) = true := by
  unfold Opt.may
  have h1 : decide (TEN.size = 2) = true := by decide
  have h2 : Opt.allB Opt.idN TEN.data.toList = true := by decide
  have h3 : Opt.allB Opt.dataN (encT L).data.toList = true := by
    unfold encT
    split
    · rw [list_bs]; exact hex_data _
    · rfl
  rw [h1, h2, h3, decide_eq_true h]; rfl
theorem pack_ok (L : List A2) : Opt.packOk (oL L) = true := by
  unfold oL
  split
  · rename_i h
    have hm := may_ten L h.2.2
    have hs := Opt.enc_size TEN (encT L) hm
    have e1 : Opt.okN [(TEN, encT L)] 1 = true := by
      rw [Opt.okN_succ [(TEN, encT L)] 0 (TEN, encT L) rfl]
      have : Opt.stepB [(TEN, encT L)] 0 (TEN, encT L) = (Opt.may TEN (encT L) && !decide (TEN = Opt.PB) && !Opt.hasB [] TEN) := rfl
      rw [this, hm, show decide (TEN = Opt.PB) = false by decide]
      rfl
    have hc : (Opt.catP [(TEN, encT L)]).size ≤ 9010 := by
      have : Opt.catP [(TEN, encT L)] = Opt.enc TEN (encT L) := by
        apply ba_ext
        unfold Opt.catP Opt.encs
        rw [list_bs]
        simp [Oct.cat]
      rw [this, hs]; split <;> omega
    have hp : (Opt.padP [(TEN, encT L)]).size ≤ 300 := Opt.padV_size _
    unfold Opt.packOk Opt.cntP
    rw [show ([(TEN, encT L)] : List P2).length = 1 from rfl, e1]
    simp only [Bool.true_and, Bool.and_eq_true, decide_eq_true_eq]
    exact ⟨by split <;> omega, by omega⟩
  · decide +kernel
theorem pk_size (L : List A2) : (pk L).size ≤ 9999 := by
  have h := pack_ok L
  unfold pk
  rw [Opt.packX_size _ h]
  unfold Opt.packOk at h
  simp only [Bool.and_eq_true, decide_eq_true_eq] at h
  exact h.2
theorem packE_ok (L : List A2) : Opt.packE (oL L) = 0 := (Opt.packE_zero _).2 (pack_ok L)
theorem packN_b (L : List A2) : 0 ≤ Opt.packN (oL L) ∧ Opt.packN (oL L) ≤ 98 := by
  have h := pack_ok L
  rw [Opt.packN_ok _ h]
  unfold Opt.packOk at h
  simp only [Bool.and_eq_true, decide_eq_true_eq] at h
  omega
structure TopOk (l u m v e : ByteArray) (L : List A2) (n : Int) : Prop where
  bad : badN l n = false
  ok : Table.okB u.data.toList m.data.toList v.data.toList e.data.toList l.data.toList = true
  oe : oE L = 0
  most : Kind.mostN l.data.toList ≠ 0
  n16 : 16 ≤ n
  n40 : n ≤ 4096
  nm : n % 16 = 0
  z9 : topN L n ≤ 9999
theorem top_ok_iff (l u m v e : ByteArray) (L : List A2) (n : Int) (h : topE l u m v e L n = 0) : TopOk l u m v e L n := by
  unfold topE at h
  cases hb : badN l n with
  | true => rw [hb, if_pos rfl] at h; cases h
  | false =>
    rw [hb, if_neg (by decide)] at h
    cases hk : Table.okB u.data.toList m.data.toList v.data.toList e.data.toList l.data.toList with
    | false => rw [hk, if_pos rfl] at h; cases h
    | true =>
      rw [hk, if_neg (by decide)] at h
      by_cases ho : oE L = 0
      · rw [if_neg (fun h2 => h2 ho), if_neg (fun h2 => h2 (packE_ok L))] at h
        by_cases hz : 9999 < topN L n
        · rw [if_pos hz] at h; cases h
        · have hb2 := hb
          unfold badN at hb2
          simp only [Bool.or_eq_false_iff, decide_eq_false_iff_not] at hb2
          exact ⟨hb, hk, ho, hb2.1.1.1, by omega, by omega, by omega, by omega⟩
      · rw [if_pos ho] at h; exact absurd h ho
theorem top_of (l u m v e : ByteArray) (L : List A2) (n : Int) (h : TopOk l u m v e L n) : topE l u m v e L n = 0 := by
  unfold topE
  rw [h.bad, if_neg (by decide), h.ok, if_neg (by decide), if_neg (fun h2 => h2 h.oe), if_neg (fun h2 => h2 (packE_ok L)), if_neg (by have := h.z9; omega)]
theorem TopOk.inN {l u m v e : ByteArray} {L : List A2} {n : Int} (h : TopOk l u m v e L n) : InN (topN L n) (Opt.packN (oL L)) l.data.toList := by
  have hp := packN_b L
  have := h.n16
  have := h.z9
  exact ⟨by unfold topN; omega, h.z9, hp.1, by omega, h.most⟩
theorem c7_inj {n k n' k' : Int} {l u m v e l' u' m' v' e' : ByteArray} (h : C7 n k l u m v e = C7 n' k' l' u' m' v' e') : n = n' ∧ k = k' ∧ l = l' ∧ u = u' ∧ m = m' ∧ v = v' ∧ e = e' := by
  unfold C7 at h
  simp only [Array.mk.injEq, List.cons.injEq, Value.int.injEq, Value.string.injEq, and_true, true_and] at h
  obtain ⟨h1, h2, h3, h4, h5, h6, h7⟩ := h
  exact ⟨h1, h3, h2, h4, h5, h6, h7⟩
/-- what was put together is cut so -/
theorem cut_top (l u m v e : ByteArray) (L : List A2) (c g : ByteArray) (h : topE l u m v e L (c.size : Int) = 0) (hg : g.size = 16) (s : ByteArray) (hs : s = joinX (topX l u m v e L (c.size : Int)) c g) :
    cutE s = 0 ∧ s.extract 7 8 = l ∧ s.extract 5 7 = u ∧ s.extract 8 9 = m ∧ s.extract 9 11 = v ∧ s.extract 11 12 = e ∧ fL (cutO s) = L ∧ s.extract 0 (cutD s) = topX l u m v e L (c.size : Int) ∧ selC (cutR s) = c ∧ selT (cutR s) = g := by
  have ht := top_ok_iff l u m v e L _ h
  have hin := ht.inN
  have hX : topX l u m v e L (c.size : Int) = encX (topN L (c.size : Int)) (Opt.packN (oL L)) l u m v e ++ pk L := by unfold topX; rw [if_pos h]
  have hcl : c.data.toList.length = c.size := rfl
  have hgl : g.data.toList.length = g.size := rfl
  obtain ⟨R, hR⟩ : ∃ R, bs (Dig.hexL c.data.toList) ++ bs (Dig.hexL g.data.toList) = R := ⟨_, rfl⟩
  have hRl : R.data.toList = Dig.hexL (c.data.toList ++ g.data.toList) := by rw [← hR, app_list, list_bs, list_bs]; unfold Dig.hexL; rw [List.flatMap_append]
  have hRs : R.size = 2 * (c.size + 16) := by
    show R.data.toList.length = _
    rw [hRl, Dig.hexL_len, List.length_append, hcl, hgl, hg]
  have hs2 : s = encX (topN L (c.size : Int)) (Opt.packN (oL L)) l u m v e ++ (pk L ++ R) := by
    rw [hs]; unfold joinX
    rw [hX, ← hR]; simp only [Opt.app_assoc]
  obtain ⟨z1, z2, z3⟩ := Header.dec_enc (topN L (c.size : Int)) (Opt.packN (oL L)) l u m v e (pk L ++ R) hin ht.ok
  rw [← hs2] at z2 z3
  have hsz : (s.size : Int) = topN L (c.size : Int) := by
    rw [hs2, ByteArray.size_append, ByteArray.size_append, z1, hRs]; unfold topN; omega
  have h9 := ht.z9
  have hpos : 48 ≤ s.size := by have := ht.n16; have h8 := hsz; unfold topN at h8; omega
  rcases dec_cases s with ⟨q, _⟩ | ⟨_, hF, hk⟩
  · exact absurd z2 q
  have hv : Header.decV s = C7 (Dig.numD (s.extract 1 5).data.toList : Int) (Dig.numD (s.extract 12 14).data.toList : Int) (s.extract 7 8) (s.extract 5 7) (s.extract 8 9) (s.extract 9 11) (s.extract 11 12) := if_pos ⟨hF, hk⟩
  rw [hv] at z3
  obtain ⟨i1, i2, i3, i4, i5, i6, i7⟩ := c7_inj z3
  have hbeg : begE s = 0 := by
    unfold begE
    rw [if_neg (by omega), if_neg (by omega), if_neg (fun h2 => h2 z2), if_neg (fun h2 => h2 (by omega))]
  have hT : cutT s = pk L ++ R := Opt.ext_suf s _ _ hs2 16 z1
  have hK : cutK s = Opt.packN (oL L) := i2
  have hun : Opt.unpOk (cutT s) (cutK s) = some (oL L, (pk L).size) := by
    rw [hK]; exact Opt.unp_fwd (oL L) (pack_ok L) R _ hT
  obtain ⟨e1, e2, e3⟩ := Opt.unp_yes _ _ _ _ hun
  have hD : cutD s = 16 + (pk L).size := by unfold cutD; rw [e2, Int.toNat_natCast]
  have hO : cutO s = oL L := e1
  obtain ⟨f1, f2⟩ := from_opt L ht.oe
  have hRR : s.extract (cutD s) s.size = R := by
    refine Opt.ext_suf s (encX (topN L (c.size : Int)) (Opt.packN (oL L)) l u m v e ++ pk L) R (by rw [hs2, Opt.app_assoc]) _ ?_
    rw [ByteArray.size_append, z1, hD]
  have hcr : cutR s = Dig.hexL (c.data.toList ++ g.data.toList) := by unfold cutR; rw [hRR, hRl]
  have hub := unB_hex (c.data.toList ++ g.data.toList)
  have hus : Dig.unS (Dig.hexL (c.data.toList ++ g.data.toList)) = c ++ g := by
    apply ba_ext
    rw [unS_hex, app_list]
  have hn16 := ht.n16
  have hnm := ht.nm
  have hsel : okT (cutR s) = true := by
    rw [hcr]; unfold okT
    rw [hub, hus, ByteArray.size_append, hg, decide_eq_true (by omega), decide_eq_true (by omega)]; rfl
  refine ⟨?_, i3, i4, i5, i6, i7, by rw [hO, f1], ?_, ?_, ?_⟩
  · unfold cutE
    rw [if_neg (fun h2 => h2 hbeg), if_neg (fun h2 => h2 e3), if_neg (fun h2 => h2 (by rw [hO]; exact f2))]
    unfold selE; rw [if_pos hsel]
  · rw [hX]
    refine Opt.ext_pre s _ R (by rw [hs2, Opt.app_assoc]) _ ?_
    rw [ByteArray.size_append, z1, hD]
  · unfold selC
    rw [if_pos hsel, hcr, hus, ByteArray.size_append, hg, show c.size + 16 - 16 = c.size by omega]
    exact Opt.ext_pre _ c g rfl _ rfl
  · unfold selT
    rw [if_pos hsel, hcr, hus]
    rw [show (c ++ g).size - 16 = c.size by rw [ByteArray.size_append, hg]; omega]
    exact Opt.ext_suf _ c g rfl _ rfl
theorem from_back (o : List P2) (hk : Opt.packOk o = true) (h : fE o = 0) : oE (fL o) = 0 ∧ oL (fL o) = o := by
  match o, hk, h with
  | [], _, _ => exact ⟨o_nil.2, o_nil.1⟩
  | [(i, d)], hk, h =>
    have hm : Opt.may i d = true := by
      unfold Opt.packOk at hk
      simp only [Bool.and_eq_true] at hk
      exact Opt.okN_may [(i, d)] 1 hk.1.1 (i, d) (by simp)
    by_cases hc : i = TEN ∧ 0 < d.size
    · have e : fO [(i, d)] = (decO d.data.toList, false) := if_pos hc
      obtain ⟨rfl, hd⟩ := hc
      unfold fE at h
      unfold fL
      rw [e] at h ⊢
      simp only [Bool.false_eq_true, if_false] at h ⊢
      cases hdo : decO d.data.toList with
      | none => rw [hdo] at h; cases h
      | some L =>
        rw [hdo] at h
        have hE : attE L = 0 := h
        rw [p_good L hE]
        have henc := Templ.enc_dec d L hdo hE
        have h0 : 0 < L.length := by
          rcases Nat.eq_zero_or_pos L.length with hz | hz
          · obtain rfl := List.length_eq_zero_iff.1 hz
            rw [encT_nil] at henc
            rw [← henc] at hd
            exact absurd hd (by decide)
          · exact hz
        have h9 : (encT L).size ≤ 9000 := by rw [henc]; exact (Opt.may_sizes TEN d hm).2
        rw [(o_good L hE h0 h9).1, (o_good L hE h0 h9).2, henc]
        exact ⟨rfl, rfl⟩
    · have e : fO [(i, d)] = (none, false) := if_neg hc
      unfold fE at h
      rw [e] at h; cases h
  | p :: q :: o, _, h =>
    have e : fO (p :: q :: o) = (none, false) := rfl
    unfold fE at h
    rw [e] at h; cases h
theorem split_ext (U : ByteArray) (k : Nat) (_h : k ≤ U.size) : (U.extract 0 k).data.toList ++ (U.extract k U.size).data.toList = U.data.toList := by
  rw [ext_list, ext_list, List.drop_zero, Nat.sub_zero]
  have hul : U.data.toList.length = U.size := rfl
  rw [List.take_of_length_le (show (U.data.toList.drop k).length ≤ U.size - k by rw [List.length_drop, hul]; omega)]
  exact List.take_append_drop _ _
/-- what was cut, put together again, is what it was -/
theorem top_cut (s : ByteArray) (h : cutE s = 0) (h40 : (selC (cutR s)).size ≤ 4096) :
    topE (s.extract 7 8) (s.extract 5 7) (s.extract 8 9) (s.extract 9 11) (s.extract 11 12) (fL (cutO s)) ((selC (cutR s)).size : Int) = 0 ∧ topX (s.extract 7 8) (s.extract 5 7) (s.extract 8 9) (s.extract 9 11) (s.extract 11 12) (fL (cutO s)) ((selC (cutR s)).size : Int) = s.extract 0 (cutD s) := by
  obtain ⟨h1, h2, h3, h4⟩ := cut_facts s h
  obtain ⟨d1, d2, d3, d4⟩ := cut_sizes s h
  obtain ⟨h16, h9, hv, hF, hk, hn⟩ := beg_ok0 s h1
  have hsel : okT (cutR s) = true := by
    unfold selE at h4
    cases hq : okT (cutR s) with
    | true => rfl
    | false => rw [hq, if_neg (by decide)] at h4; cases h4
  have hC : selC (cutR s) = (Dig.unS (cutR s)).extract 0 ((Dig.unS (cutR s)).size - 16) := if_pos hsel
  unfold okT at hsel
  simp only [Bool.and_eq_true, decide_eq_true_eq] at hsel
  obtain ⟨⟨hub, hs32⟩, hs16⟩ := hsel
  have hlen : (cutR s).length = 2 * (Dig.unS (cutR s)).size := by
    have := Templ.hex_unS (cutR s) hub
    have h8 := congrArg List.length this
    rw [Dig.hexL_len, Opt.sz] at h8
    exact h8.symm
  have hl : (cutR s).length = s.size - cutD s := by
    have : (cutR s).length = (s.extract (cutD s) s.size).size := rfl
    rw [this, ByteArray.size_extract]; omega
  have hcs : (selC (cutR s)).size = (Dig.unS (cutR s)).size - 16 := by rw [hC, ByteArray.size_extract]; omega
  have hTz : (cutT s).size = s.size - 16 := by unfold cutT; rw [ByteArray.size_extract]; omega
  cases hu : Opt.unpOk (cutT s) (cutK s) with
  | none => rw [(Opt.unp_no _ _ hu).2.2] at h2; cases h2
  | some q =>
    obtain ⟨O, A⟩ := q
    obtain ⟨e1, e2, e3⟩ := Opt.unp_yes _ _ _ _ hu
    obtain ⟨p1, p2, p3, p4, _, _⟩ := Opt.unp_some _ _ _ _ hu
    have hO : cutO s = O := e1
    have hD : cutD s = 16 + A := by unfold cutD; rw [e2, Int.toNat_natCast]
    obtain ⟨b1, b2⟩ := from_back O p1 (by rw [← hO]; exact h3)
    rw [hO]
    have hpk : pk (fL O) = (cutT s).extract 0 A := by unfold pk; rw [b2]; exact p3
    have hpz : (pk (fL O)).size = A := by rw [hpk, ByteArray.size_extract]; omega
    have hz : topN (fL O) ((selC (cutR s)).size : Int) = (s.size : Int) := by unfold topN; rw [hpz, hcs]; omega
    have hmost : Kind.mostN (s.extract 7 8).data.toList ≠ 0 := hF.2.2.2.2.2
    have hbad : badN (s.extract 7 8) ((selC (cutR s)).size : Int) = false := by
      unfold badN
      rw [decide_eq_false hmost, decide_eq_false (by omega), decide_eq_false (by omega), decide_eq_false (by omega)]; rfl
    have htop : TopOk (s.extract 7 8) (s.extract 5 7) (s.extract 8 9) (s.extract 9 11) (s.extract 11 12) (fL O) ((selC (cutR s)).size : Int) :=
      ⟨hbad, hk, b1, hmost, by omega, by omega, by omega, by rw [hz]; omega⟩
    have hE := top_of _ _ _ _ _ _ _ htop
    refine ⟨hE, ?_⟩
    unfold topX
    rw [if_pos hE, hz, b2]
    obtain ⟨n, k, l, u, m, v, e, w1, _, _, _, _, w6, _⟩ := Header.enc_dec s hF hk
    rw [hv] at w1
    obtain ⟨i1, i2, i3, i4, i5, i6, i7⟩ := c7_inj w1
    rw [Opt.packN_ok O p1, p2, i3, i4, i5, i6, i7, i2, show (s.size : Int) = (n : Int) by rw [← i1, hn], w6, hpk]
    apply ba_ext
    unfold cutT
    rw [app_list, ext_list, ext_list, ext_list, ext_list, hD]
    have hsl : s.data.toList.length = s.size := rfl
    rw [List.drop_zero, List.drop_zero, Nat.sub_zero, Nat.sub_zero, Nat.sub_zero, List.take_of_length_le (show (s.data.toList.drop 16).length ≤ s.size - 16 by rw [List.length_drop, hsl]; omega)]
    rw [List.take_add]
theorem join_cut (s : ByteArray) (h : cutE s = 0) : joinX (s.extract 0 (cutD s)) (selC (cutR s)) (selT (cutR s)) = s := by
  obtain ⟨h1, h2, h3, h4⟩ := cut_facts s h
  obtain ⟨d1, d2, d3, d4⟩ := cut_sizes s h
  have hsel : okT (cutR s) = true := by
    unfold selE at h4
    cases hq : okT (cutR s) with
    | true => rfl
    | false => rw [hq, if_neg (by decide)] at h4; cases h4
  have hC : selC (cutR s) = (Dig.unS (cutR s)).extract 0 ((Dig.unS (cutR s)).size - 16) := if_pos hsel
  have hG : selT (cutR s) = (Dig.unS (cutR s)).extract ((Dig.unS (cutR s)).size - 16) (Dig.unS (cutR s)).size := if_pos hsel
  unfold okT at hsel
  simp only [Bool.and_eq_true, decide_eq_true_eq] at hsel
  obtain ⟨⟨hub, hs32⟩, hs16⟩ := hsel
  have hx := Templ.hex_unS (cutR s) hub
  unfold joinX
  rw [hC, hG]
  apply ba_ext
  rw [app_list, app_list, list_bs, list_bs]
  have hsp : ((Dig.unS (cutR s)).extract 0 ((Dig.unS (cutR s)).size - 16)).data.toList ++ ((Dig.unS (cutR s)).extract ((Dig.unS (cutR s)).size - 16) (Dig.unS (cutR s)).size).data.toList = (Dig.unS (cutR s)).data.toList := split_ext _ _ (by omega)
  have hh : Dig.hexL ((Dig.unS (cutR s)).extract 0 ((Dig.unS (cutR s)).size - 16)).data.toList ++ Dig.hexL ((Dig.unS (cutR s)).extract ((Dig.unS (cutR s)).size - 16) (Dig.unS (cutR s)).size).data.toList = cutR s := by
    have ha : ∀ a b : List UInt8, Dig.hexL a ++ Dig.hexL b = Dig.hexL (a ++ b) := fun a b => by unfold Dig.hexL; rw [List.flatMap_append]
    rw [ha, hsp, hx]
  rw [List.append_assoc, hh]
  unfold cutR
  exact split_ext s _ (by omega)
end Frame
end Go.Proofs.YtgfdomdbjiflmaaDoor

/- Package frame: Parts; what the laws of layer 34 call awake. -/
namespace Go.Proofs.YtgfdomdbjiflmaaDoor
open Go.RowKit
namespace Frame
open Att Templ Header
/-- what Parts answers -/
def PostP4 (w : World) (D M Z : Nat) (x : Ending) (w' : World) : Prop :=
  ∃ g, x = .returned (.slice (some ⟨g, 0, none⟩) 4 4) ∧ g < w'.heap.size ∧ (∀ i v, (CX D M Z)[i]? = some v → w'.cell? ⟨g, i, none⟩ = some v) ∧ Below w.heap.size w w'
theorem hb9 {w : World} {K : World → Prop} {g : Nat} {a b c d e f k p q : Value} {W : World} (h : HB w K g #[a, b, c, d, e, f, k, p, q] W) : W.cell? ⟨g, 0, none⟩ = some a ∧ W.cell? ⟨g, 1, none⟩ = some b ∧ W.cell? ⟨g, 2, none⟩ = some c ∧ W.cell? ⟨g, 3, none⟩ = some d ∧ W.cell? ⟨g, 4, none⟩ = some e ∧ W.cell? ⟨g, 5, none⟩ = some f ∧ W.cell? ⟨g, 6, none⟩ = some k ∧ W.cell? ⟨g, 7, none⟩ = some p ∧ W.cell? ⟨g, 8, none⟩ = some q :=
  ⟨h.cell 0 _ rfl, h.cell 1 _ rfl, h.cell 2 _ rfl, h.cell 3 _ rfl, h.cell 4 _ rfl, h.cell 5 _ rfl, h.cell 6 _ rfl, h.cell 7 _ rfl, h.cell 8 _ rfl⟩
end Frame
end Go.Proofs.YtgfdomdbjiflmaaDoor

/- Package frame: Top, whole. -/
namespace Go.Proofs.YtgfdomdbjiflmaaDoor
open Go.RowKit
namespace Frame
open Att Templ Header
theorem ol_small (L : List A2) : (oL L).length ≤ 600 ∧ ∀ p ∈ oL L, p.1.size ≤ 1000000 ∧ p.2.size ≤ 1000000 := by
  unfold oL
  split
  · refine ⟨by simp, fun p hp => ?_⟩
    have hp2 := List.mem_singleton.1 hp
    subst hp2
    have := encT_size L
    exact ⟨by show TEN.size ≤ _; decide, by show (encT L).size ≤ _; omega⟩
  · exact ⟨by simp, fun p hp => by cases hp⟩
end Frame
end Go.Proofs.YtgfdomdbjiflmaaDoor

/- Package frame: Cut and Parts as contracts; what the laws of layer 34 call awake. -/
namespace Go.Proofs.YtgfdomdbjiflmaaDoor
open Go.RowKit
namespace Frame
open Att Templ Header
/-- a text has these parts -/
def CutOk (s l u m v e : ByteArray) (L : List A2) (P C G : ByteArray) : Prop := ∀ w, KH w → Calls Tryd.prog 71 #[.string s] w fun x w' => ∃ a, x = .returned (.tuple #[.agg (C9 l u m v e a P C G), .int .i64 0]) ∧ AttsS w' a L ∧ Below w.heap.size w w'
set_option maxRecDepth 100000 in
theorem CutOk.calls0 {s l u m v e : ByteArray} {L : List A2} {P C G : ByteArray} (h : CutOk s l u m v e L P C G) {w : World} (hT : KH w) {R : Ending → World → Prop} (k : ∀ a w', AttsS w' a L → Since w w' → R (.returned (.tuple #[.agg (C9 l u m v e a P C G), .int .i64 0])) w') : Calls Tryd.prog 71 #[.string s] w R :=
  (h w hT).mono fun _ _ ⟨a, he, ha, hb⟩ => by subst he; exact k a _ ha hb
theorem cut_ok (s : ByteArray) (h : cutE s = 0) : CutOk s (s.extract 7 8) (s.extract 5 7) (s.extract 8 9) (s.extract 9 11) (s.extract 11 12) (fL (cutO s)) (s.extract 0 (cutD s)) (selC (cutR s)) (selT (cutR s)) := cut_good s h
def S16 : ByteArray := ⟨#[68, 48, 48, 56, 48, 75, 48, 65, 66, 48, 48, 69, 48, 48, 48, 48]⟩
def K16 : ByteArray := ⟨#[48, 49, 50, 51, 52, 53, 54, 55, 56, 57, 97, 98, 99, 100, 101, 102]⟩
def T16 : ByteArray := ⟨#[102, 101, 100, 99, 98, 97, 57, 56, 55, 54, 53, 52, 51, 50, 49, 48]⟩
theorem aw_top : topE ⟨#[65]⟩ ⟨#[75, 48]⟩ ⟨#[66]⟩ ⟨#[48, 48]⟩ ⟨#[69]⟩ [] 16 = 0 ∧ topX ⟨#[65]⟩ ⟨#[75, 48]⟩ ⟨#[66]⟩ ⟨#[48, 48]⟩ ⟨#[69]⟩ [] 16 = S16 := by
  constructor
  · decide +kernel
  · decide +kernel
theorem aw_bits : Flt.fl ((48 : Nat) : Int) = 4631952216750555136 ∧ Flt.fl ((80 : Nat) : Int) = 4635329916471083008 := by decide +kernel
end Frame
end Go.Proofs.YtgfdomdbjiflmaaDoor

/- Packages limit and its reference: what blobs cost. -/
namespace Go.Proofs.YtgfdomdbjiflmaaDoor
open Go.RowKit
namespace Limit
open Att Templ Header Go.Proofs.YtgfdomdbjiflmaaDoor.Frame Flt

def wrI (n : Int) : Int := if n = 16 then 1 else 6 * ((n - 8) / 8)
def kyI (k : Int) (b : ByteArray) : Int := if cutE b = 0 then blkI ((cutD b : Int) + ((selC (cutR b)).size : Int)) + 1 + ((selC (cutR b)).size : Int) / 16 + 4 * tagsI k else 0
def gateB (k f : Int) (b : ByteArray) : Bool := fitB f (b.size : Int) && kk k
def costI (k f : Int) (b : ByteArray) : Int := if gateB k f b then (if f = 1 then wrI (b.size : Int) else kyI k b) else 0
def costD (k f : Int) (b : ByteArray) : Int := if gateB k f b then (b.size : Int) else 0
theorem hexsz (x : ByteArray) : (bs (Dig.hexL x.data.toList)).size = 2 * x.size := by
  show (bs (Dig.hexL x.data.toList)).data.toList.length = _
  rw [list_bs, Dig.hexL_len]; rfl
theorem cut_nums (b : ByteArray) (h : cutE b = 0) : cutD b + 2 * (selC (cutR b)).size + 32 = b.size ∧ b.size ≤ 9999 := by
  have hj := congrArg ByteArray.size (join_cut b h)
  have e : ∀ t c g : ByteArray, (joinX t c g).size = t.size + 2 * c.size + 2 * g.size := by
    intro t c g
    unfold joinX
    rw [ByteArray.size_append, ByteArray.size_append, hexsz, hexsz]
  rw [e] at hj
  obtain ⟨_, _, _, h4⟩ := cut_facts b h
  obtain ⟨_, h6, h7, _⟩ := cut_sizes b h
  have hg : (selT (cutR b)).size = 16 := by
    unfold selE at h4
    split at h4
    · rename_i hk
      unfold selT
      rw [if_pos hk]
      unfold okT at hk
      simp only [Bool.and_eq_true, decide_eq_true_eq] at hk
      rw [ByteArray.size_extract]
      omega
    · cases h4
  rw [hg, ByteArray.size_extract] at hj
  omega
theorem blkI_b (n : Int) (h : 0 ≤ n) : 1 ≤ blkI n ∧ blkI n ≤ n + 1 ∧ 16 * blkI n ≤ n + 31 := by
  unfold blkI
  split <;> omega
theorem tagsI_b (k : Int) : 1 ≤ tagsI k ∧ tagsI k ≤ 2 := by unfold tagsI; split <;> omega
theorem wr_b (n : Int) (h1 : 16 ≤ n) (h2 : n ≤ 65544) (h3 : n % 8 = 0) : 1 ≤ wrI n ∧ wrI n ≤ 6 * n / 8 ∧ wrI n ≤ n + 16 := by unfold wrI; split <;> omega
theorem ky_b (k : Int) (b : ByteArray) : 0 ≤ kyI k b ∧ kyI k b ≤ (b.size : Int) / 8 + 16 := by
  unfold kyI
  split
  · rename_i h
    have h1 := cut_nums b h
    have h2 := blkI_b ((cutD b : Int) + ((selC (cutR b)).size : Int)) (by omega)
    have h3 := tagsI_b k
    omega
  · omega
theorem cost_b (k f : Int) (b : ByteArray) : 0 ≤ costI k f b ∧ costI k f b ≤ mostI f (b.size : Int) ∧ costI k f b ≤ (b.size : Int) + 16 := by
  unfold costI
  cases h : gateB k f b with
  | false =>
    rw [if_neg (by decide)]
    unfold mostI
    refine ⟨Int.le_refl _, ?_, by omega⟩
    split
    · split <;> omega
    · exact Int.le_refl _
  | true =>
    rw [if_pos rfl]
    unfold gateB at h
    rw [Bool.and_eq_true] at h
    have hf := h.1
    unfold mostI
    rw [if_pos hf]
    rcases fit_cases hf with ⟨rfl, h1, h2, h3⟩ | ⟨rfl, h1, h2⟩
    · rw [if_pos rfl, if_pos rfl]
      have := wr_b _ h1 h2 h3
      omega
    · rw [if_neg (by decide), if_neg (by decide)]
      have := ky_b k b
      omega
theorem most_b (f : Int) (b : ByteArray) : mostI f (b.size : Int) ≤ 6 * (b.size : Int) + 16 := by
  unfold mostI
  split
  · split <;> omega
  · omega
theorem cost_fl (k f : Int) (b : ByteArray) (hb : b.size ≤ 1000000) : (costI k f b).natAbs < 9007199254740992 ∧ (costD k f b).natAbs < 9007199254740992 := by
  have h1 := cost_b k f b
  refine ⟨by omega, ?_⟩
  unfold costD
  split <;> omega
theorem fl0 : fl 0 = 0 := by decide +kernel

set_option maxRecDepth 100000 in
theorem wrapped_ret (n : Int) (h1 : 16 ≤ n) (h2 : n ≤ 65544) (h3 : n % 8 = 0) (x : Int) (hx : x = wrI n) : Ret 51 #[.int .i64 n] (.int .i64 x) := by
  intro w
  unfold wrI at hx
  by_cases h : n = 16
  · subst h
    have : x = 1 := hx
    subst this
    clear h1 h2 h3 hx
    go_enter Tryd.func51, Tryd.ntmps51
    go_wp2_with fail
    go_ret
    exact ⟨rfl, rfl⟩
  · rw [if_neg h] at hx
    have c1 := steps_ret (n - 8) (by omega) (by omega) (by omega)
    rw [← hx] at c1
    have t1 : (n == 16) = false := beq_eq_false_iff_ne.2 h
    clear h h3 hx
    go_enter Tryd.func51, Tryd.ntmps51
    go_wp2_with fail
    refine (c1).calls ?_
    go_wp2_with fail
    go_ret
    exact ⟨rfl, rfl⟩
set_option maxRecDepth 100000 in
theorem keyed_bad (kek b : ByteArray) (E : Int) (hE : (E != 0) = true) (c1 : KMk KH 71 #[.string b] (.tuple #[.agg Z9, .int .i64 E])) : KMk KH 52 #[.string kek, .string b] (.int .i64 0) := by
  intro w hT
  have HS := Lib.hid (Since.refl w)
  unfold Z9 at c1
  go_enter Tryd.func52, Tryd.ntmps52
  go_wp2_with fail
  refine (c1.calls0 hT) ?_
  intro w1 h1
  replace HS := Lib.hid (HS.out.step (by first | exact h1 | exact (Since.alloc (Since.refl _) _).step h1 | exact (Since.alloc (Since.alloc (Since.refl _) _) _).step h1 | exact (Since.drew (Since.refl _)).step h1 | exact (Since.alloc (Since.alloc (Since.alloc (Since.refl _) _) _) _).step h1))
  clear h1
  have hq := Lib.hid (HS.out.alloc (.cells #[.string ⟨#[]⟩, .string ⟨#[]⟩, .string ⟨#[]⟩, .string ⟨#[]⟩, .string ⟨#[]⟩, .slice none 0 0, .string ⟨#[]⟩, .string ⟨#[]⟩, .string ⟨#[]⟩] 94))
  clear HS hT
  go_wp2_with fail
  go_ret
  exact ⟨rfl, hq.out⟩
set_option maxRecDepth 100000 in
set_option maxHeartbeats 2000000 in
theorem keyed_ok (kek b l u m v e : ByteArray) (L : List A2) (P C G : ByteArray) (c1 : CutOk b l u m v e L P C G) (X : Int) (c2 : Ret 72 #[.int .i64 (P.size : Int), .int .i64 (C.size : Int)] (.int .i64 X)) (hX : 0 ≤ X ∧ X ≤ 1000000)
    (T : Int) (c3 : Ret 73 #[.int .i64 (kek.size : Int)] (.int .i64 T)) (hT2 : 1 ≤ T ∧ T ≤ 2) : KMk KH 52 #[.string kek, .string b] (.int .i64 (X + 4 * T)) := by
  intro w hT
  have HS := Lib.hid (Since.refl w)
  obtain ⟨x1, x2⟩ := hX
  obtain ⟨y1, y2⟩ := hT2
  go_enter Tryd.func52, Tryd.ntmps52
  go_wp2_with fail
  refine c1.calls0 hT ?_
  intro a w1 ha h1
  obtain ⟨A', d', hav, _⟩ := ha.slice
  subst hav
  unfold C9
  have hp := Lib.hid (hb_new w1 KT trivial #[.string l, .string u, .string m, .string v, .string e, .slice A' L.length d', .string P, .string C, .string G] 94)
  replace HS := Lib.hid (HS.out.step h1)
  have HQ := Lib.hid (HS.out.alloc (.cells #[.string l, .string u, .string m, .string v, .string e, .slice A' L.length d', .string P, .string C, .string G] 94))
  obtain ⟨n0, n1, n2, n3, n4, n5, n6, n7, n8⟩ := hb9 hp.out
  clear h1 ha hT HS n0 n1 n2 n3 n4 n5 n8
  go_wp2_with fail
  refine (c2).calls ?_
  go_wp2_with fail
  refine (c3).calls ?_
  go_wp2_with fail
  go_ret
  exact ⟨rfl, HQ.out⟩
set_option maxRecDepth 100000 in
theorem cost_a (kek b : ByteArray) (f : Int) (c1 : Ret 26 #[.int .i64 f, .int .i64 (b.size : Int)] (.bool false)) : KMk KH 23 #[.string kek, .int .i64 f, .string b] (.complex .f64 0 0) := by
  intro w hT
  clear hT
  go_enter Tryd.func23, Tryd.ntmps23
  go_wp2_with fail
  refine (c1).calls ?_
  go_wp2_with fail
  go_ret
  exact ⟨rfl, Below.refl _ _⟩
set_option maxRecDepth 100000 in
theorem cost_n (kek b : ByteArray) (f : Int) (c1 : Ret 26 #[.int .i64 f, .int .i64 (b.size : Int)] (.bool true)) (c2 : Ret 50 #[.int .i64 (kek.size : Int)] (.int .i64 0)) : KMk KH 23 #[.string kek, .int .i64 f, .string b] (.complex .f64 0 0) := by
  intro w hT
  clear hT
  go_enter Tryd.func23, Tryd.ntmps23
  go_wp2_with fail
  refine (c1).calls ?_
  go_wp2_with fail
  refine (c2).calls ?_
  go_wp2_with fail
  go_ret
  exact ⟨rfl, Below.refl _ _⟩
set_option maxRecDepth 100000 in
set_option maxHeartbeats 2000000 in
theorem cost_w (kek b : ByteArray) (X : Int) (F1 F2 : Nat) (v1 : ∀ w, (convert 3 43 (.int .i64 X)).run Tryd.prog w = .ok (.float .f64 F1) w) (v2 : ∀ w, (convert 3 43 (.int .i64 (b.size : Int))).run Tryd.prog w = .ok (.float .f64 F2) w)
    (c1 : Ret 26 #[.int .i64 1, .int .i64 (b.size : Int)] (.bool true)) (r : Int) (hr : (r == 0) = false) (c2 : Ret 50 #[.int .i64 (kek.size : Int)] (.int .i64 r)) (c3 : Ret 51 #[.int .i64 (b.size : Int)] (.int .i64 X)) : KMk KH 23 #[.string kek, .int .i64 1, .string b] (.complex .f64 F1 F2) := by
  intro w hT
  have HS := Lib.hid (Since.refl w)
  have HT := Lib.hid hT
  clear hT
  go_enter Tryd.func23, Tryd.ntmps23
  go_wp2_with fail
  refine (c1).calls ?_
  go_wp2_with fail
  refine (c2).calls ?_
  go_wp2_with fail
  refine (c3).calls ?_
  go_wp2_with fail
  go_ret
  exact ⟨rfl, HS.out⟩
set_option maxRecDepth 100000 in
set_option maxHeartbeats 2000000 in
theorem cost_x (kek b : ByteArray) (X : Int) (F1 F2 : Nat) (v1 : ∀ w, (convert 3 43 (.int .i64 X)).run Tryd.prog w = .ok (.float .f64 F1) w) (v2 : ∀ w, (convert 3 43 (.int .i64 (b.size : Int))).run Tryd.prog w = .ok (.float .f64 F2) w)
    (c1 : Ret 26 #[.int .i64 2, .int .i64 (b.size : Int)] (.bool true)) (r : Int) (hr : (r == 0) = false) (c2 : Ret 50 #[.int .i64 (kek.size : Int)] (.int .i64 r)) (c3 : KMk KH 52 #[.string kek, .string b] (.int .i64 X)) : KMk KH 23 #[.string kek, .int .i64 2, .string b] (.complex .f64 F1 F2) := by
  intro w hT
  have HS := Lib.hid (Since.refl w)
  have HT := Lib.hid hT
  clear hT
  go_enter Tryd.func23, Tryd.ntmps23
  go_wp2_with fail
  refine (c1).calls ?_
  go_wp2_with fail
  refine (c2).calls ?_
  go_wp2_with fail
  refine (c3.calls0 HT.out) ?_
  intro w1 h1
  replace HS := Lib.hid (HS.out.step (by first | exact h1 | exact (Since.alloc (Since.refl _) _).step h1 | exact (Since.alloc (Since.alloc (Since.refl _) _) _).step h1 | exact (Since.drew (Since.refl _)).step h1 | exact (Since.alloc (Since.alloc (Since.alloc (Since.refl _) _) _) _).step h1))
  clear h1
  go_wp2_with fail
  go_ret
  exact ⟨rfl, HS.out⟩
theorem cost_any (kek b : ByteArray) (f : Int) (hb : b.size ≤ 20000) : KMk KH 23 #[.string kek, .int .i64 f, .string b] (.complex .f64 (fl (costI (kek.size : Int) f b)) (fl (costD (kek.size : Int) f b))) := by
  have c1 := fits_ret f (b.size : Int) _ rfl
  cases hf : fitB f (b.size : Int) with
  | false =>
    rw [hf] at c1
    have hg : gateB (kek.size : Int) f b = false := by unfold gateB; rw [hf]; rfl
    rw [costI, costD, hg, if_neg (by decide), if_neg (by decide), fl0]
    exact cost_a kek b f c1
  | true =>
    rw [hf] at c1
    cases hk : kk (kek.size : Int) with
    | false =>
      have hg : gateB (kek.size : Int) f b = false := by unfold gateB; rw [hf, hk]; rfl
      rw [costI, costD, hg, if_neg (by decide), if_neg (by decide), fl0]
      exact cost_n kek b f c1 (srounds_no _ hk)
    | true =>
      have hg : gateB (kek.size : Int) f b = true := by unfold gateB; rw [hf, hk]; rfl
      rw [costI, costD, hg, if_pos rfl, if_pos rfl]
      obtain ⟨r, hr, c2⟩ := srounds_yes _ hk
      rcases fit_cases hf with ⟨rfl, h1, h2, h3⟩ | ⟨rfl, h1, h2⟩
      · rw [if_pos rfl]
        exact cost_w kek b _ _ _ (Span.conv_if _) (Span.conv_if _) c1 r hr c2 (wrapped_ret _ h1 h2 h3 _ rfl)
      · rw [if_neg (by decide)]
        refine cost_x kek b _ _ _ (Span.conv_if _) (Span.conv_if _) c1 r hr c2 ?_
        unfold kyI
        by_cases h : cutE b = 0
        · rw [if_pos h]
          have hn := cut_nums b h
          have hp : (b.extract 0 (cutD b)).size = cutD b := by rw [ByteArray.size_extract]; omega
          have hb := blkI_b ((cutD b : Int) + ((selC (cutR b)).size : Int)) (by omega)
          have c3 := sblk_ret ((cutD b : Nat) : Int) ((selC (cutR b)).size : Int) (by omega) (by omega) (by omega) (by omega) _ rfl (by omega)
          rw [← hp] at c3
          have hX : 0 ≤ blkI (((b.extract 0 (cutD b)).size : Int) + ((selC (cutR b)).size : Int)) + 1 + ((selC (cutR b)).size : Int) / 16 ∧ blkI (((b.extract 0 (cutD b)).size : Int) + ((selC (cutR b)).size : Int)) + 1 + ((selC (cutR b)).size : Int) / 16 ≤ 1000000 := by rw [hp]; omega
          have h9 := keyed_ok kek b _ _ _ _ _ _ _ _ _ (cut_ok b h) _ c3 hX _ (ktags _ hk) (tagsI_b _)
          rw [hp] at h9
          exact h9
        · rw [if_neg h]
          exact keyed_bad kek b _ (by rw [bne_iff_ne]; exact h) (cut_bad b _ (split_bad b (by omega) h))
set_option maxRecDepth 100000 in
set_option maxHeartbeats 2000000 in
theorem total_two (w : World) (g c A B C D A1 B1 A2 B2 : Nat) (m0 : w.cell? ⟨g, 0, none⟩ = some (.complex .f64 A B)) (m1 : w.cell? ⟨g, 1, none⟩ = some (.complex .f64 C D))
    (s1 : cSumBits .add .f64 0 0 A B = some (A1, B1)) (s2 : cSumBits .add .f64 A1 B1 C D = some (A2, B2)) : Calls Tryd.prog 24 #[.slice (some ⟨g, 0, none⟩) 2 c] w fun e w' => e = .returned (.complex .f64 A2 B2) ∧ w' = w := by
  have s1 := fun (W : World) (t : TypeId) => run_complex_sum (P := Tryd.prog) W .add (Or.inl rfl) t .f64 _ _ _ _ _ _ s1
  have s2 := fun (W : World) (t : TypeId) => run_complex_sum (P := Tryd.prog) W .add (Or.inl rfl) t .f64 _ _ _ _ _ _ s2
  go_enter Tryd.func24, Tryd.ntmps24
  go_wp2_with fail
  go_loop [3, 8] (fun s i => (s = .complex .f64 0 0 ∧ i = .int .i64 0) ∨ (s = .complex .f64 A1 B1 ∧ i = .int .i64 1) ∨ (s = .complex .f64 A2 B2 ∧ i = .int .i64 2)) (fun _ i => 2 - (intOf i).toNat)
  case atStart => exact Or.inl ⟨rfl, rfl⟩
  case round =>
    rcases hrel with ⟨rfl, rfl⟩ | ⟨rfl, rfl⟩ | ⟨rfl, rfl⟩
    · go_wp2_with fail
      go_round
      case rel => exact Or.inr (Or.inl ⟨rfl, rfl⟩)
      case measure => simp [intOf]
    · go_wp2_with fail
      go_round
      case rel => exact Or.inr (Or.inr ⟨rfl, rfl⟩)
      case measure => simp [intOf]
    · go_wp2_with fail
      go_ret
      exact ⟨rfl, rfl⟩
set_option maxRecDepth 100000 in
set_option maxHeartbeats 2000000 in
theorem awake_core (c1 : KMk KH 23 #[.string ⟨#[48, 49, 50, 51, 52, 53, 54, 55, 56, 57, 97, 98, 99, 100, 101, 102]⟩, .int .i64 1, .string ⟨#[48, 49, 50, 51, 52, 53, 54, 55, 56, 57, 97, 98, 99, 100, 101, 102]⟩] (.complex .f64 4607182418800017408 4625196817309499392))
    (c2 : Ret 26 #[.int .i64 1, .int .i64 24] (.bool true)) (c3 : Ret 26 #[.int .i64 1, .int .i64 20] (.bool false)) (c4 : Ret 25 #[.int .i64 2, .int .i64 160] (.int .i64 36)) : KMk KH 22 #[] (.bool true) := by
  intro w hT
  have HS := Lib.hid (Since.refl w)
  have o1 : (FloatKind.f64.format.order 4607182418800017408 4607182418800017408 == some .eq) = true := by decide +kernel
  have o2 : (FloatKind.f64.format.order 4625196817309499392 4625196817309499392 == some .eq) = true := by decide +kernel
  have o3 : (FloatKind.f64.format.order 4613937818241073152 4613937818241073152 == some .eq) = true := by decide +kernel
  have s1 : cSumBits .add .f64 0 0 4607182418800017408 0 = some (4607182418800017408, 0) := by decide +kernel
  have s2 : cSumBits .add .f64 4607182418800017408 0 4611686018427387904 4613937818241073152 = some (4613937818241073152, 4613937818241073152) := by decide +kernel
  have HT := Lib.hid hT
  clear hT
  go_enter Tryd.func22, Tryd.ntmps22
  go_wp2_with fail
  refine (c1.calls0 HT.out) ?_
  intro w1 h1
  replace HS := Lib.hid (HS.out.step (by first | exact h1 | exact (Since.alloc (Since.refl _) _).step h1 | exact (Since.alloc (Since.alloc (Since.refl _) _) _).step h1 | exact (Since.drew (Since.refl _)).step h1 | exact (Since.alloc (Since.alloc (Since.alloc (Since.refl _) _) _) _).step h1))
  clear h1
  go_wp2_with fail
  refine (c2).calls ?_
  go_wp2_with fail
  refine (c3).calls ?_
  go_wp2_with fail
  refine (c4).calls ?_
  go_wp2_with fail
  have HQ := Lib.hid (HS.out.alloc (.cells #[.complex .f64 4607182418800017408 0, .complex .f64 4611686018427387904 4613937818241073152] 39))
  refine (total_two _ w1.heap.size 2 _ _ _ _ _ _ _ _ (World.cell?_alloc_new _ _ _ _) (World.cell?_alloc_new _ _ _ _) s1 s2).mono ?_
  rintro e w2 ⟨rfl, rfl⟩
  go_wp2_with fail
  go_ret
  exact ⟨rfl, HQ.out⟩
def K16 : ByteArray := ⟨#[48, 49, 50, 51, 52, 53, 54, 55, 56, 57, 97, 98, 99, 100, 101, 102]⟩
theorem awake_k : KMk KH 22 #[] (.bool true) := by
  have c1 := cost_any K16 K16 1 (by decide)
  have hz : K16.size = 16 := by decide
  have e1 : costI (K16.size : Int) 1 K16 = 1 := by
    unfold costI gateB
    rw [hz]
    decide +kernel
  have e2 : costD (K16.size : Int) 1 K16 = 16 := by
    unfold costD gateB
    rw [hz]
    decide +kernel
  have e3 : fl 1 = 4607182418800017408 ∧ fl 16 = 4625196817309499392 := by decide +kernel
  rw [e1, e2, e3.1, e3.2] at c1
  exact awake_core c1 (fits_ret 1 24 true (by decide)) (fits_ret 1 20 false (by decide)) (most_ret 2 160 36 (by decide))
end Limit
end Go.Proofs.YtgfdomdbjiflmaaDoor
