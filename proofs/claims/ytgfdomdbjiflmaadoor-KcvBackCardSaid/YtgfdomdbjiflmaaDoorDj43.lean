/- Joined texts. -/
-- PACK: YtgfdomdbjiflmaaDoorRefSched YtgfdomdbjiflmaaDoorRefSched2 YtgfdomdbjiflmaaDoorSchedAwake YtgfdomdbjiflmaaDoorAes5 YtgfdomdbjiflmaaDoorRefAes YtgfdomdbjiflmaaDoorRefAes2
import Derived.Test.YtgfdomdbjiflmaaDoorDj42
import Derived.Test.YtgfdomdbjiflmaaDoorDj3
import Derived.Test.YtgfdomdbjiflmaaDoorDj38
import Derived.Deep.RegionWith
import Derived.Deep.RegionHeld3
import Derived.IntWalk
import Derived.Test.YtgfdomdbjiflmaaDoorDj12
import Derived.Test.YtgfdomdbjiflmaaDoorDj35
import Derived.Laws.Tables
import Derived.Test.YtgfdomdbjiflmaaDoorDj16

/- The reference of package sched. -/
namespace Go.Proofs.YtgfdomdbjiflmaaDoor
open Go.RowKit
namespace RefSched
open Rnd Sched

theorem xor_m (a b : ByteArray) (ha : a.size ≤ 140737488355328) (hb : b.size ≤ 140737488355328) (X : ByteArray) (hX : X = xorS a b) : Mak 55 #[.string a, .string b] (.string X) := fun w => by
  rw [hX]; exact RefOct.xor_any a b _ w rfl ha hb

def upw (l : List UInt8) (n j : Nat) : List ByteArray := if j ≤ n then Oct.pcs l 4 j else grow (first l n) n (j - n)
theorem upw_len (l : List UInt8) (n j : Nat) : (upw l n j).length = j := by
  unfold upw; split
  · rw [Oct.pcs_len]
  · rw [grow_len, first, Oct.pcs_len]; omega
theorem upw_lo (l : List UInt8) (n j : Nat) (h : j < n) : upw l n (j + 1) = upw l n j ++ [Oct.pc l 4 j] := by
  unfold upw; rw [if_pos (by omega), if_pos (by omega), Oct.pcs_succ]
theorem upw_n (l : List UInt8) (n k : Nat) : upw l n (n + k) = grow (first l n) n k := by
  unfold upw
  by_cases h : k = 0
  · subst h; rw [if_pos (by omega)]; rfl
  · rw [if_neg (by omega), Nat.add_sub_cancel_left]
theorem upw_hi (l : List UInt8) (n j : Nat) (h : n ≤ j) : upw l n (j + 1) = upw l n j ++ [word (upw l n j) j n] := by
  obtain ⟨k, rfl⟩ : ∃ k, j = n + k := ⟨j - n, by omega⟩
  rw [Nat.add_assoc, upw_n, upw_n]; rfl
theorem upw_size (l : List UInt8) (n j : Nat) (hn : 1 ≤ n) (hl : l.length = 4 * n) : ∀ x ∈ upw l n j, x.size = 4 := by
  unfold upw; split
  · rename_i hj
    intro x hx
    unfold Oct.pcs at hx
    obtain ⟨i, hi, rfl⟩ := List.mem_map.1 hx
    rw [List.mem_range] at hi
    unfold Oct.pc
    rw [size_bs, List.length_take, List.length_drop]
    omega
  · exact grow_size _ n _ hn (by unfold first; rw [Oct.pcs_len]) (first_size l n hl)
set_option maxRecDepth 100000 in
theorem conv4 (x : Int) (S : ByteArray) (hS : strOfNums [x, 0, 0, 0] = S) : ∀ (W : World) (g : Nat), W.cell? ⟨g, 0, none⟩ = some (.int .u8 x) → W.cell? ⟨g, 1, none⟩ = some (.int .u8 0) → W.cell? ⟨g, 2, none⟩ = some (.int .u8 0) → W.cell? ⟨g, 3, none⟩ = some (.int .u8 0) → ∀ dst, Tryd.prog.underlying dst = some .string → (convert 97 dst (.slice (some ⟨g, 0, none⟩) 4 4)).run Tryd.prog W = .ok (.string S) W := by
  subst hS
  intro W g h0 h1 h2 h3
  refine run_convert_bytes_arg (P := Tryd.prog) W 97 5 Tryd.underlying97 Tryd.underlying5 g 0 4 4 [x, 0, 0, 0] rfl fun i hi => ?_
  have hii : i = 0 ∨ i = 1 ∨ i = 2 ∨ i = 3 := by omega
  rcases hii with rfl | rfl | rfl | rfl
  · exact h0
  · exact h1
  · exact h2
  · exact h3
end RefSched
end Go.Proofs.YtgfdomdbjiflmaaDoor

/- The reference of package sched: all words, and the keys of rounds. -/
namespace Go.Proofs.YtgfdomdbjiflmaaDoor
open Go.RowKit
namespace RefSched
open Rnd Sched

theorem pkclosed (w0 : World) : PK w0 (.slice none 0 0) [] w0 := ⟨Since.refl w0, World.ownsRow_nil _ _ _ _⟩
theorem quad (ws : List ByteArray) (h : ∀ x ∈ ws, x.size = 4) (k : Nat) (hk : 4 * k + 4 ≤ ws.length) (A B C D : ByteArray) (hA : A = ws.getD (4 * k) ⟨#[]⟩) (hB : B = ws.getD (4 * k + 1) ⟨#[]⟩) (hC : C = ws.getD (4 * k + 2) ⟨#[]⟩) (hD : D = ws.getD (4 * k + 3) ⟨#[]⟩) :
    A ++ B ++ C ++ D = Oct.pc (Oct.cat ws) 16 k := by
  have e : ws.drop (4 * k) = A :: B :: C :: D :: ws.drop (4 * k + 4) := by
    rw [hA, hB, hC, hD]
    rw [List.drop_eq_getElem_cons (show 4 * k < ws.length by omega), List.drop_eq_getElem_cons (show 4 * k + 1 < ws.length by omega), List.drop_eq_getElem_cons (show 4 * k + 1 + 1 < ws.length by omega), List.drop_eq_getElem_cons (show 4 * k + 1 + 1 + 1 < ws.length by omega)]
    simp [List.getD, List.getElem?_eq_getElem (show 4 * k < ws.length by omega), List.getElem?_eq_getElem (show 4 * k + 1 < ws.length by omega), List.getElem?_eq_getElem (show 4 * k + 2 < ws.length by omega), List.getElem?_eq_getElem (show 4 * k + 3 < ws.length by omega)]
  have s4 : ∀ x ∈ ws.drop (4 * k), x.data.toList.length = 4 := fun x hx => h x (List.mem_of_mem_drop hx)
  rw [e] at s4
  have sA := s4 A (by simp)
  have sB := s4 B (by simp)
  have sC := s4 C (by simp)
  have sD := s4 D (by simp)
  apply ba_ext
  unfold Oct.pc
  rw [list_bs, show 16 * k = 4 * (4 * k) from by omega, cat_drop4 ws h, e, app_list, app_list, app_list]
  simp only [cat_cons]
  rw [← List.append_assoc, ← List.append_assoc, ← List.append_assoc, List.take_left' (by simp only [List.length_append]; omega)]
end RefSched
end Go.Proofs.YtgfdomdbjiflmaaDoor

/- What the law calls awake, for layer 8. -/
namespace Go.Proofs.YtgfdomdbjiflmaaDoor
open Go.RowKit
namespace Sched

set_option maxRecDepth 100000 in
theorem MakE.calls {f : Nat} {args : Array Value} {ss : List ByteArray} {e : Int} (h : MakE f args ss e) {W0 w : World} (hs : Since W0 w) {R : Ending → World → Prop} (k : ∀ v w', StrsR w' v ss → Below w.heap.size w w' → Since W0 w' → R (.returned (.tuple #[v, .int .i64 e])) w') : Calls Tryd.prog f args w R :=
  (h w).mono fun _ _ ⟨v, he, ho, hb⟩ => by subst he; exact k v _ ho hb (hs.step hb)
theorem StrsR.nil (w : World) : StrsR w (.slice none 0 0) [] := ⟨Nat.zero_le _, none, 0, rfl, Or.inl rfl⟩
theorem MakE.nil {f : Nat} {args : Array Value} {e : Int} (h : Ret f args (.tuple #[.slice none 0 0, .int .i64 e])) : MakE f args [] e := fun w => (h w).mono fun _ _ ⟨he, hw⟩ => ⟨_, he, by subst hw; exact ⟨StrsR.nil _, Below.refl _ _⟩⟩
theorem MakS.nil {f : Nat} {args : Array Value} (h : Ret f args (.slice none 0 0)) : MakS f args [] := fun w => (h w).mono fun _ _ ⟨he, hw⟩ => ⟨_, he, by subst hw; exact ⟨World.ownsRow_nil _ _ _ _, Below.refl _ _⟩⟩
theorem StrsR.form {w : World} {v : Value} {ss : List ByteArray} (h : StrsR w v ss) (hn : 0 < ss.length) : ∃ b o c : Nat, v = .slice (some ⟨b, o, none⟩) ss.length c ∧ b < w.heap.size ∧ ∀ i, i < ss.length → w.cell? ⟨b, o + i, none⟩ = some (.string (ss.getD i ⟨#[]⟩)) := by
  obtain ⟨_, A, c, rfl, h2⟩ := h
  rcases h2 with rfl | ⟨ad, rfl, hlt, hc⟩
  · simp at hn
  · obtain ⟨b, o, sp⟩ := ad
    have hsp : sp = none := by simpa [Addr.add] using World.cell?_spot (hc 0 hn)
    subst hsp
    exact ⟨b, o, c, rfl, hlt, fun i hi => by
      have hadd : (⟨b, o, none⟩ : Addr).add i = ⟨b, o + i, none⟩ := by unfold Addr.add; split <;> simp_all
      rw [← hadd]; exact hc i hi⟩
end Sched
end Go.Proofs.YtgfdomdbjiflmaaDoor

/- Package aes: a cipher: made, asked for its size, a block read. -/
namespace Go.Proofs.YtgfdomdbjiflmaaDoor
open Go.RowKit
namespace Aes
open Rnd

/-- a cipher's cells when k keys are laid -/
def cipF (ks : List ByteArray) (len r : Int) (k p : Nat) : Value :=
  if p < 1792 then tabV p else if p = 1792 then .int .i64 len else if p = 1793 then .int .i64 r else if p < 1794 + 16 * k then blV (rk ks ((p - 1794) / 16)) ((p - 1794) % 16) else .int .u8 0
/-- a cipher with the keys ks lies in block c -/
structure Cip (w : World) (c : Nat) (ks : List ByteArray) (n : Nat) (len : Int) : Prop where
  tb : TB w c
  ln : w.cell? ⟨c, 1792, none⟩ = some (.int .i64 len)
  rd : w.cell? ⟨c, 1793, none⟩ = some (.int .i64 (n : Int))
  ky : ∀ j, j ≤ n → ∀ i, i < 16 → w.cell? ⟨c, 1794 + 16 * j + i, none⟩ = some (blV (rk ks j) i)
theorem Cip.since {w w' : World} {c : Nat} {ks : List ByteArray} {n : Nat} {len : Int} (h : Cip w c ks n len) (hs : Since w w') : Cip w' c ks n len :=
  ⟨h.tb.since hs, (hs.below.cell (p := ⟨c, 1792, none⟩) h.tb.1).trans h.ln, (hs.below.cell (p := ⟨c, 1793, none⟩) h.tb.1).trans h.rd, fun j hj i hi => (hs.below.cell (p := ⟨c, _, none⟩) h.tb.1).trans (h.ky j hj i hi)⟩
theorem Cip.below {w w' : World} {c : Nat} {ks : List ByteArray} {n : Nat} {len : Int} (h : Cip w c ks n len) (hs : Below w.heap.size w w') : Cip w' c ks n len := h.since hs

def zkey : Array Value := Array.replicate 1792 (.int .u8 0) ++ #[.int .i64 0, .int .i64 0] ++ Array.replicate 240 (.int .u8 0)
theorem zkey_size : zkey.size = 2034 := by simp [zkey]
set_option maxRecDepth 100000 in
theorem infoC : (Tryd.prog.info? 129).bind (·.zero) = some (.agg zkey) := by kernel_rfl
set_option maxRecDepth 100000 in
theorem placesC : ∃ fs, Tryd.prog.underlying 129 = some (.struct fs) ∧ fs.toList.mapM (fun f => (Tryd.prog.info? f.type).map fun i => (f.offset, i.size)) = some [(0, 1792), (1792, 1), (1793, 1), (1794, 240)] := ⟨_, Tryd.underlying129, by kernel_rfl⟩
theorem zkey_at (i : Nat) (h : 1794 ≤ i) (h2 : i < 2034) : zkey[i]? = some (.int .u8 0) := by
  unfold zkey
  rw [Array.getElem?_append_right (by simp; omega), Array.getElem?_replicate, if_pos (by simp; omega)]
set_option maxRecDepth 100000 in
theorem builtC (C : Array Value) (hC : C.size = 1792) (len r : Int) : ∃ X, Tryd.prog.built 129 [(0, .agg C), (1, .int .i64 len), (2, .int .i64 r)] = some X ∧ X.size = 2034 ∧
    (∀ i, i < 1792 → X[i]? = C[i]?) ∧ X[1792]? = some (.int .i64 len) ∧ X[1793]? = some (.int .i64 r) ∧ ∀ i, 1794 ≤ i → i < 2034 → X[i]? = some (.int .u8 0) := by
  obtain ⟨fs, hu, hp⟩ := placesC
  have hi := infoC
  cases hq : Tryd.prog.info? 129 with
  | none => rw [hq] at hi; cases hi
  | some it =>
    rw [hq] at hi
    have hz : it.zero = some (.agg zkey) := hi
    have hzs := zkey_size
    have hza := zkey_at
    unfold Program.built
    simp only [hq, hu, hz, hp]
    generalize zkey = Z at hzs hza
    obtain ⟨s1, a1⟩ := fold_put C.toList Z 0 0 (fun n hn => by simp at hn; omega)
    have e1 : C.zipIdx.foldl (fun cs (c, j) => cs.setIfInBounds (0 + j) c) Z = (C.toList.zipIdx 0).foldl (fun cs (c, j) => cs.setIfInBounds (0 + j) c) Z := by
      rw [← Array.foldl_toList, Array.toList_zipIdx]
    obtain ⟨Y, hY⟩ : ∃ Y, Y = C.zipIdx.foldl (fun cs (c, j) => cs.setIfInBounds (0 + j) c) Z := ⟨_, rfl⟩
    rw [← e1, ← hY] at s1 a1
    refine ⟨(Y.setIfInBounds 1792 (.int .i64 len)).setIfInBounds 1793 (.int .i64 r), ?_, ?_, ?_, ?_, ?_, ?_⟩
    · simp [Instr.fill, Value.cells, hC, hzs]
      have hY' : Y = Array.foldl (fun cs x => cs.setIfInBounds x.2 x.1) Z C.zipIdx 0 1792 := by rw [hY]; simp [hC]
      rw [← hY', s1, hzs]
      simp
    · simp [s1, hzs]
    · intro i hi
      rw [Array.getElem?_setIfInBounds_ne (by omega), Array.getElem?_setIfInBounds_ne (by omega), a1 i, if_pos (by simp; omega)]
      simp
    · rw [Array.getElem?_setIfInBounds_ne (by omega), Array.getElem?_setIfInBounds_self_of_lt (by omega)]
    · rw [Array.getElem?_setIfInBounds_self_of_lt (by simp; omega)]
    · intro i h1 h2
      rw [Array.getElem?_setIfInBounds_ne (by omega), Array.getElem?_setIfInBounds_ne (by omega), a1 i, if_neg (by simp; omega)]
      exact hza i h1 h2

theorem results_row_tmp {P : Program} {fn : Func} {p u : Tmp} {ty : TypeId} (h : fn.results = #[.cell p ty, .tmp u]) (tmps : Array Value) (w : World) (g : Nat) (t : TypeId) (cs : Array Value) (fr : Nat × Nat) (d : TypeDesc) (v : Value)
    (hp : tmps.getD p undef = .pointer (some ⟨g, 0, none⟩)) (hv : tmps.getD u undef = v) (hg : w.heap[g]? = some (.cells cs t fr))
    (hu : P.underlying ty = some d) (hd : (match d with | .struct _ | .array _ _ => true | _ => false) = true) (hi : (P.info? ty).map (·.size) = some cs.size) :
    (results fn tmps).run P w = .ok (.tuple #[.agg cs, v]) w := by
  rw [results_cell_tmp h, hp, hv]
  simp [asAddr, run_loadVar_row w g t ty cs fr d hg hu hd hi, Result.andThen]
theorem z16_one : Z16.all (·.oneCell') = true := by
  rw [Array.all_eq_true]
  intro i hi
  have h1 : i < 16 := hi
  have h := z16 i h1
  have h2 : Z16[i]? = some (.int .u8 0) := h
  rw [Array.getElem?_eq_getElem hi] at h2
  rw [Option.some.inj h2]; rfl
set_option maxRecDepth 100000 in
theorem size_ret (c : Nat) (len : Int) (w : World) (h : w.cell? ⟨c, 1792, none⟩ = some (.int .i64 len)) : Calls Tryd.prog 111 #[.pointer (some ⟨c, 0, none⟩)] w fun e w' => e = .returned (.int .i64 len) ∧ w = w' := by
  go_enter Tryd.func111, Tryd.ntmps111
  go_wp2_with fail
  go_ret
  exact ⟨rfl, rfl⟩
set_option maxRecDepth 100000 in
set_option maxHeartbeats 2000000 in
theorem read_no (c : Nat) (ks : List ByteArray) (n : Nat) (len : Int) (hn : (len == 0) = false) (s : ByteArray) (hs : s.size ≠ 16) (_hm : s.size ≤ 140737488355328) (w : World) (hC : Cip w c ks n len) :
    Calls Tryd.prog 95 #[.pointer (some ⟨c, 0, none⟩), .string s] w fun e w' => e = .returned (.tuple #[.agg Z16, .int .i64 4]) ∧ Since w w' := by
  obtain ⟨Z, hZ⟩ : ∃ Z, Z = Z16 := ⟨_, rfl⟩
  have hns : ((s.size : Int) == 16) = false := by rw [beq_eq_false_iff_ne]; omega
  have hns2 : ((s.size : Int) != 16) = true := by rw [bne_iff_ne]; omega
  have c1 := fun w' (h : Since w w') => size_ret c len w' (hC.since h).ln
  have hs0 : Since w ((w.alloc (.cells Z16 126)).alloc (.cells Z16 126)) := ((Since.refl w).alloc _).alloc _
  have hb0 : ((w.alloc (.cells Z16 126)).alloc (.cells Z16 126)).heap[w.heap.size]? = some (.cells Z16 126 (0, 0)) := (Go.heap_alloc_old _ _ (by simp)).trans (Go.heap_alloc_new _ _)
  have hb1 : ((w.alloc (.cells Z16 126)).alloc (.cells Z16 126)).heap[w.heap.size + 1]? = some (.cells Z16 126 (0, 0)) := Go.heap_alloc2_new _ _ _
  have hE1 : Z16.all (·.oneCell') = true := z16_one
  have Hs0 := Lib.hid hs0
  clear hs0
  have Hb0 := Lib.hid hb0
  clear hb0
  have Hb1 := Lib.hid hb1
  clear hb1
  have HE1 := Lib.hid hE1
  clear hE1
  clear hC hs
  go_enter Tryd.func95, Tryd.ntmps95
  go_wp2_with fail
  refine (c1 _ Hs0.out).mono ?_
  rintro e w2 ⟨rfl, rfl⟩
  go_wp2_with (first | (refine wpList_load_row rfl 126 _ rfl (w.heap.size + 1) (by rfl) _ _ _ _ Hb1.out Tryd.underlying126 rfl i16 ?_) | (refine wpList_store_row rfl 126 _ _ rfl w.heap.size Z16 (by rfl) (by rfl) _ _ Hb0.out i16 rfl HE1.out ?_))
  exact bodyPost_ret (v := .tuple #[.agg Z16, .int .i64 4]) (results_row_tmp Tryd.results95 _ _ w.heap.size _ _ _ _ _ rfl rfl (setRow_heap _ _ _ _ _ _ Hb0.out) Tryd.underlying126 rfl i16) rfl ⟨rfl, below_setRow Hs0.out (Nat.le_refl _) _⟩
end Aes
end Go.Proofs.YtgfdomdbjiflmaaDoor

/- The reference of aes: forward, backward. -/
namespace Go.Proofs.YtgfdomdbjiflmaaDoor
open Go.RowKit
namespace RefAes
open Rnd Aes

theorem strs_below {w w' : World} {v : Value} {ss : List ByteArray} (h : StrsR w v ss) (hb : Since w w') : StrsR w' v ss := h.below hb
theorem rk_at (ks : List ByteArray) (i : Nat) (K : ByteArray) (hK : K = ks.getD i ⟨#[]⟩) : rk ks i = K.data.toList := by rw [hK]; rfl
theorem getD_size {ks : List ByteArray} (h : ∀ x ∈ ks, x.size = 16) (i : Nat) (hi : i < ks.length) : (ks.getD i ⟨#[]⟩).size = 16 := by
  rw [List.getD, List.getElem?_eq_getElem hi]; exact h _ (List.getElem_mem _)
end RefAes
end Go.Proofs.YtgfdomdbjiflmaaDoor

/- The reference of aes: blocks encrypted, decrypted; many. -/
namespace Go.Proofs.YtgfdomdbjiflmaaDoor
open Go.RowKit
namespace RefAes
open Rnd Aes

theorem keysL_16 (key : ByteArray) (hk : keyOk key) : ∀ x ∈ Sched.keysL key.data.toList (key.size / 4), x.size = 16 := by
  unfold keyOk at hk
  have hl : key.data.toList.length = 4 * (key.size / 4) := by show key.size = _; omega
  have hcl := Sched.catw_len key.data.toList (key.size / 4) (by omega) hl
  intro x hx
  unfold Sched.keysL Oct.pcs at hx
  obtain ⟨i, hi, rfl⟩ := List.mem_map.1 hx
  rw [List.mem_range] at hi
  unfold Oct.pc
  rw [size_bs, List.length_take, List.length_drop, hcl]
  omega
/-- blocks, one by one -/
def manyL (f : ByteArray → ByteArray) (l : List UInt8) (k : Nat) : List UInt8 := Oct.cat ((Oct.pcs l 16 k).map f)
theorem manyL_succ (f : ByteArray → ByteArray) (l : List UInt8) (k : Nat) : manyL f l (k + 1) = manyL f l k ++ (f (Oct.pc l 16 k)).data.toList := by
  unfold manyL
  rw [Oct.pcs_succ, List.map_append, List.map_singleton, Oct.cat_snoc]
theorem manyL_len (f : ByteArray → ByteArray) (hf : ∀ b, (f b).size = 16) (l : List UInt8) (k : Nat) : (manyL f l k).length = 16 * k := by
  induction k with
  | zero => rfl
  | succ k ih =>
    rw [manyL_succ, List.length_append, ih]
    have : (f (Oct.pc l 16 k)).data.toList.length = 16 := hf _
    omega
def manyK (back : Bool) (key s : ByteArray) : ByteArray := bs (manyL (if back then decK key else encK key) s.data.toList (s.size / 16))
theorem both_16 (back : Bool) (key b : ByteArray) : ((if back then decK key else encK key) b).size = 16 := by
  cases back
  · exact encK_size key b
  · exact decK_size key b
theorem pc_ext (s : ByteArray) (a k : Nat) (ha : a = 16 * k) : s.extract a (a + 16) = Oct.pc s.data.toList 16 k := by
  apply ba_ext
  rw [ext_list, Oct.pc, list_bs, ha, show 16 * k + 16 - 16 * k = 16 from by omega]
theorem pc_16 (s : ByteArray) (k : Nat) (h : 16 * k + 16 ≤ s.size) : (Oct.pc s.data.toList 16 k).size = 16 := by
  unfold Oct.pc
  rw [size_bs, List.length_take, List.length_drop]
  have : s.data.toList.length = s.size := rfl
  omega
end RefAes
end Go.Proofs.YtgfdomdbjiflmaaDoor
