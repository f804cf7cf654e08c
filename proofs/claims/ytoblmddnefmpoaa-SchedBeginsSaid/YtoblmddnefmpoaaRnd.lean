/- Package round: a state read from a string, and its string. -/
import Derived.Test.YtoblmddnefmpoaaMemA
import Derived.Test.YtoblmddnefmpoaaBytes
import Derived.Laws.Rows
import Derived.Laws.Tables
import Derived.Deep.Draws
import Derived.Laws.CopyOwn
import Derived.RegionTactic
import Derived.ChangeAlike
import Derived.IntWalk
import Derived.Deep.RegionWith
namespace Go.Proofs.Ytoblmddnefmpoaa
open Go.RowKit
namespace Rnd

/-- byte i of a string -/
def ent (l : List UInt8) (i : Nat) : Nat := (l.getD i 0).toNat
theorem ent_s (s : ByteArray) (k : Nat) (h : k < s.size) : ent s.data.toList k = s[k].toNat := by
  unfold ent
  congr 1
  simp [List.getD, List.getElem?_eq_getElem (show k < s.data.toList.length from h)]; rfl
theorem ent_lt (l : List UInt8) (i : Nat) : ent l i < 256 := UInt8.toNat_lt _
/-- cell j of a state: row j / 4, column j % 4 -/
def stV (l : List UInt8) (j : Nat) : Value := .int .u8 ((ent l (4 * (j % 4) + j / 4) : Nat) : Int)
def stC (l : List UInt8) : Array Value := ((List.range 16).map (stV l)).toArray
theorem stC_size (l : List UInt8) : (stC l).size = 16 := by simp [stC]
theorem stC_at (l : List UInt8) (j : Nat) (h : j < 16) : (stC l)[j]? = some (stV l j) := by simp [stC, h]
theorem stC_one (l : List UInt8) : (stC l).all (·.oneCell') = true := by
  rw [Array.all_eq_true]
  intro i hi
  simp [stC]
  rfl
theorem row_arr {w : World} {b t : Nat} {f : Nat → Value} {l : List UInt8} (h : w.rowIs b t 16 f) (hf : ∀ j, j < 16 → f j = stV l j) : w.heap[b]? = some (.cells (stC l) t (0, 0)) := by
  obtain ⟨c, hg, hn, hc⟩ := h
  rw [hg]
  congr 2
  apply Array.ext_getElem?
  intro i
  by_cases hi : i < 16
  · rw [hc i hi, hf i hi, stC_at l i hi]
  · rw [Array.getElem?_eq_none (by omega), Array.getElem?_eq_none (by rw [stC_size]; omega)]
theorem arr_row {w : World} {b t : Nat} {l : List UInt8} (h : w.heap[b]? = some (.cells (stC l) t (0, 0))) : w.rowIs b t 16 (stV l) := ⟨stC l, h, stC_size l, fun j hj => stC_at l j hj⟩
theorem i64st : (Try.prog.info? 64).map (·.size) = some 16 := by kernel_rfl
theorem zrow (w : World) (t : TypeId) (c : Array Value) (hc : c.size = 16) (h : ∀ i, i < 16 → c[i]? = some (.int .u8 0)) : (w.alloc (.cells c t)).rowIs w.heap.size t 16 (fun _ => .int .u8 0) := by
  have := World.rowIs_alloc w c t (fun _ => .int .u8 0) (fun i hi => h i (by omega))
  rwa [hc] at this

theorem z16 (i : Nat) (h : i < 16) : (#[.int .u8 0, .int .u8 0, .int .u8 0, .int .u8 0, .int .u8 0, .int .u8 0, .int .u8 0, .int .u8 0, .int .u8 0, .int .u8 0, .int .u8 0, .int .u8 0, .int .u8 0, .int .u8 0, .int .u8 0, .int .u8 0] : Array Value)[i]? = some (.int .u8 0) := by
  match i, h with
  | 0, _ | 1, _ | 2, _ | 3, _ | 4, _ | 5, _ | 6, _ | 7, _ | 8, _ | 9, _ | 10, _ | 11, _ | 12, _ | 13, _ | 14, _ | 15, _ => rfl
  | n + 16, h => omega
theorem World.size_alloc' (w : World) (o : Obj) : (w.alloc o).heap.size = w.heap.size + 1 := by simp
set_option maxRecDepth 100000 in
set_option maxHeartbeats 1000000 in
theorem read_any (s : ByteArray) (hs : s.size = 16) (w : World) : Calls Try.prog 72 #[.string s] w fun e w' => e = .returned (.agg (stC s.data.toList)) ∧ Since w w' := by
  have HL := Lib.hid hs
  have hlen : (s.size : Int) = 16 := by omega
  go_enter Try.func72, Try.ntmps72
  go_wp2_with fail
  go_loopw [5] (fun i wr => ∃ k : Nat, k ≤ 16 ∧ i = .int .i64 (k : Int) ∧ Hid (wr.rowIs (w.heap.size + 1) 64 16 (fun j => if 4 * (j % 4) + j / 4 < k then stV s.data.toList j else .int .u8 0)) ∧ Hid (∃ z, z.size = 16 ∧ wr.heap[w.heap.size]? = some (.cells z 64 (0, 0))) ∧ Hid (Since w wr)) (fun i _ => 16 - (intOf i).toNat)
  case atStart =>
    refine ⟨0, by omega, rfl, Lib.hid ?_, Lib.hid ?_, Lib.hid (((Since.refl w).alloc _).alloc _)⟩
    · have h := zrow (w.alloc (.cells #[.int .u8 0, .int .u8 0, .int .u8 0, .int .u8 0, .int .u8 0, .int .u8 0, .int .u8 0, .int .u8 0, .int .u8 0, .int .u8 0, .int .u8 0, .int .u8 0, .int .u8 0, .int .u8 0, .int .u8 0, .int .u8 0] 64)) 64 #[.int .u8 0, .int .u8 0, .int .u8 0, .int .u8 0, .int .u8 0, .int .u8 0, .int .u8 0, .int .u8 0, .int .u8 0, .int .u8 0, .int .u8 0, .int .u8 0, .int .u8 0, .int .u8 0, .int .u8 0, .int .u8 0] rfl z16
      simp only [World.size_alloc'] at h
      exact h.congr fun j hj => by rw [if_neg (by omega)]
    · exact ⟨_, by rfl, (Go.heap_alloc_old _ _ (by simp)).trans (Go.heap_alloc_new _ _)⟩
  case round =>
    obtain ⟨k, hk, rfl, HR, HZ, HS⟩ := hrel
    by_cases hlt : k < 16
    · obtain ⟨r, hr⟩ : ∃ r, r = k % 4 := ⟨_, rfl⟩
      obtain ⟨c, hc⟩ : ∃ c, c = k / 4 := ⟨_, rfl⟩
      have hr4 : r < 4 := by omega
      have hc4 : c < 4 := by omega
      have e1 : (k : Int) % 4 = (r : Int) := by omega
      have e2 : (k : Int) / 4 = (c : Int) := by omega
      have e3 : (k : Int).tmod 4 = (r : Int) := by rw [Int.tmod_eq_emod_of_nonneg (by omega)]; exact e1
      have e4 : (k : Int).tdiv 4 = (c : Int) := by rw [Int.tdiv_eq_ediv_of_nonneg (by omega)]; exact e2
      have hks : k < s.size := by omega
      have hcl := HR.out.cell (i := r * 4 + c) (by omega)
      have hf := HR.out.frozen (r * 4 + c)
      have Hr := Lib.hid hr
      clear hr
      have Hc := Lib.hid hc
      clear hc
      go_wp2_with fail
      go_region
      go_wp2_with fail
      go_roundw
      case rel =>
        refine ⟨k + 1, by omega, by go_num, Lib.hid ((HR.out.set (r * 4 + c) _).drew.congr fun j hj => ?_), Lib.hid ?_, Lib.hid (Since.drew (Below.setCell (p := ⟨w.heap.size + 1, r * 4 + c, none⟩) HS.out (Nat.le_succ _) _))⟩
        · have h1 := Hr.out
          have h2 := Hc.out
          by_cases h : j = r * 4 + c
          · rw [if_pos h, if_pos (by omega)]
            unfold stV
            rw [show 4 * (j % 4) + j / 4 = k from by omega, ent_s s k hks]
          · rw [if_neg h]
            by_cases h3 : 4 * (j % 4) + j / 4 < k
            · rw [if_pos h3, if_pos (by omega)]
            · rw [if_neg h3, if_neg (by omega)]
        · obtain ⟨z, hz, hzb⟩ := HZ.out
          exact ⟨z, hz, (heap_setCell_other _ _ _ _ (by simp)).trans hzb⟩
      case measure => simp [intOf]; omega
    · obtain rfl : k = 16 := by omega
      obtain ⟨z, hz, hzb⟩ := HZ.out
      have hb := row_arr (l := s.data.toList) HR.out (fun j hj => by rw [if_pos (by omega)])
      go_wp2_with (first | (refine wpList_load_row rfl 64 _ rfl (w.heap.size + 1) (by rfl) _ _ _ _ hb Try.underlying64 rfl (by rw [stC_size]; exact i64st) ?_) | (refine wpList_store_row rfl 64 _ _ rfl w.heap.size (stC s.data.toList) (by rfl) (by rfl) _ _ hzb (by rw [stC_size]; exact i64st) (by rw [stC_size]; exact hz) (stC_one _) ?_))
      exact bodyPost_ret (v := .agg (stC s.data.toList)) (results_cell_row Try.results72 _ _ _ _ _ _ _ rfl (setRow_heap _ _ _ _ _ _ hzb) Try.underlying64 rfl (by rw [stC_size]; exact i64st)) rfl ⟨rfl, below_setRow HS.out (Nat.le_refl _) _⟩

theorem slice16 (b : Nat) (w : World) : (Instr.sliceAt 81 (.pointer (some ⟨b, 0, none⟩)) none none none).run Try.prog w = .ok (.slice (some ⟨b, 0, none⟩) 16 16) w := by kernel_rfl
theorem stV_at (l : List UInt8) (r c k : Nat) (hr : r < 4) (hc : c < 4) (hk : k = 4 * c + r) : stV l (r * 4 + c) = .int .u8 ((ent l k : Nat) : Int) := by
  unfold stV; rw [show 4 * ((r * 4 + c) % 4) + (r * 4 + c) / 4 = k from by omega]
theorem text_str (l : List UInt8) (hl : l.length = 16) : strOfNums ((List.range 16).map fun j => ((ent l j : Nat) : Int)) = bs l := by
  apply ba_ext
  rw [nums_list, list_bs, List.map_map]
  apply List.ext_getElem?
  intro i
  by_cases hi : i < 16
  · simp [hi, ent, List.getD, List.getElem?_eq_getElem (show i < l.length by omega)]
  · rw [List.getElem?_eq_none (by simp; omega), List.getElem?_eq_none (by omega)]
set_option maxRecDepth 100000 in
set_option maxHeartbeats 1000000 in
theorem text_mak (l : List UInt8) (hl : l.length = 16) (C : Array Value) (hC : C = stC l) (X : ByteArray) (hX : X = bs l) : Mak 73 #[.agg C] (.string X) := by
  intro w
  have HX : Hid (strOfNums ((List.range 16).map fun j => ((ent l j : Nat) : Int)) = X) := Lib.hid (by rw [text_str l hl, hX])
  have HC := Lib.hid hC
  clear hC hX hl
  go_enter Try.func73, Try.ntmps73
  go_wp2_with fail
  go_loopw [5] (fun i wr => ∃ k : Nat, k ≤ 16 ∧ i = .int .i64 (k : Int) ∧ Hid (wr.rowIs (w.heap.size + 1) 81 16 (fun j => if j < k then .int .u8 ((ent l j : Nat) : Int) else .int .u8 0)) ∧ Hid (wr.heap[w.heap.size]? = some (.cells (stC l) 64 (0, 0))) ∧ Hid (Since w wr)) (fun i _ => 16 - (intOf i).toNat)
  case atStart =>
    refine ⟨0, by omega, rfl, Lib.hid ?_, Lib.hid ?_, Lib.hid (((Since.refl w).alloc _).alloc _)⟩
    · have h := zrow (w.alloc (.cells C 64)) 81 #[.int .u8 0, .int .u8 0, .int .u8 0, .int .u8 0, .int .u8 0, .int .u8 0, .int .u8 0, .int .u8 0, .int .u8 0, .int .u8 0, .int .u8 0, .int .u8 0, .int .u8 0, .int .u8 0, .int .u8 0, .int .u8 0] rfl z16
      simp only [World.size_alloc'] at h
      exact h.congr fun j hj => by rw [if_neg (by omega)]
    · rw [HC.out]
      exact (Go.heap_alloc_old _ _ (by simp)).trans (Go.heap_alloc_new _ _)
  case round =>
    obtain ⟨k, hk, rfl, HR, HB, HS⟩ := hrel
    by_cases hlt : k < 16
    · obtain ⟨r, hr⟩ : ∃ r, r = k % 4 := ⟨_, rfl⟩
      obtain ⟨c, hc⟩ : ∃ c, c = k / 4 := ⟨_, rfl⟩
      have hr4 : r < 4 := by omega
      have hc4 : c < 4 := by omega
      have e1 : (k : Int) % 4 = (r : Int) := by omega
      have e2 : (k : Int) / 4 = (c : Int) := by omega
      have hcl := (arr_row HB.out).cell (i := r * 4 + c) (by omega)
      rw [stV_at l r c k hr4 hc4 (by omega)] at hcl
      have hco := HR.out.cell (i := k) hlt
      have hfo := HR.out.frozen k
      clear hr hc
      go_wp2_with fail
      go_roundw
      case rel =>
        refine ⟨k + 1, by omega, by go_num, Lib.hid ((HR.out.set k _).congr fun j hj => ?_), Lib.hid ((heap_setCell_other _ _ _ _ (by simp)).trans HB.out), Lib.hid (Below.setCell (p := ⟨w.heap.size + 1, k, none⟩) HS.out (Nat.le_succ _) _)⟩
        by_cases h1 : j = k
        · subst h1; rw [if_pos rfl, if_pos (by omega)]
        · by_cases h2 : j < k
          · simp [h1, h2, show j < k + 1 from by omega]
          · simp [h1, h2, show ¬ j < k + 1 from by omega]
      case measure => simp [intOf]; omega
    · obtain rfl : k = 16 := by omega
      have g := run_convert_bytes_arg (P := Try.prog) wr 69 5 Try.underlying69 Try.underlying5 (w.heap.size + 1) 0 16 16 ((List.range 16).map fun j => ((ent l j : Nat) : Int)) (by simp) (fun i hi => by
        rw [Nat.zero_add, HR.out.cell hi, if_pos hi]; simp [hi]) 9 Try.underlying9
      rw [HX.out] at g
      have hsl := slice16 (w.heap.size + 1)
      go_wp2_with fail
      go_ret
      exact ⟨rfl, HS.out⟩

/-- a list of 16 bytes -/
def mk16 (g : Nat → Nat) : List UInt8 := (List.range 16).map fun i => UInt8.ofNat (g i)
theorem mk16_len (g : Nat → Nat) : (mk16 g).length = 16 := by simp [mk16]
theorem mk16_ent (g : Nat → Nat) (i : Nat) (hi : i < 16) (hg : g i < 256) : ent (mk16 g) i = g i := by
  simp [mk16, ent, List.getD, hi]
  omega
theorem ret_int {k : IntKind} {a b : Int} (h : a = b) : Ending.returned (.int k a) = .returned (.int k b) := by rw [h]
theorem sh_ret (r c : Nat) (hr : r < 4) (hc : c < 4) (q : Nat) (hq : q = (c + r) % 4) : Ret 75 #[.int .i64 (r : Int), .int .i64 (c : Int)] (.int .i64 (q : Int)) := by
  intro w
  have e : ((c : Int) + (r : Int)) % 4 = (q : Int) := by omega
  clear hq
  go_enter Try.func75, Try.ntmps75
  go_wp2_with fail
  go_ret
  exact ⟨ret_int e, rfl⟩
theorem ush_ret (r c : Nat) (hr : r < 4) (hc : c < 4) (q : Nat) (hq : q = (c + 4 - r) % 4) : Ret 76 #[.int .i64 (r : Int), .int .i64 (c : Int)] (.int .i64 (q : Int)) := by
  intro w
  have e : ((c : Int) + 4 - (r : Int)) % 4 = (q : Int) := by omega
  clear hq
  go_enter Try.func76, Try.ntmps76
  go_wp2_with fail
  go_ret
  exact ⟨ret_int e, rfl⟩
def pickL (sel : Nat → Nat → Nat) (l : List UInt8) : List UInt8 := mk16 fun i => ent l (4 * sel (i % 4) (i / 4) + i % 4)
theorem pick_at (sel : Nat → Nat → Nat) (l : List UInt8) (r c : Nat) (hr : r < 4) (hc : c < 4) : stV (pickL sel l) (r * 4 + c) = .int .u8 ((ent l (4 * sel r c + r) : Nat) : Int) := by
  rw [stV_at _ r c (4 * c + r) hr hc rfl, pickL, mk16_ent (fun i => ent l (4 * sel (i % 4) (i / 4) + i % 4)) (4 * c + r) (by omega) (ent_lt _ _), show (4 * c + r) % 4 = r from by omega, show (4 * c + r) / 4 = c from by omega]
set_option maxRecDepth 100000 in
set_option maxHeartbeats 2000000 in
theorem pick_sh (l : List UInt8) (C : Array Value) (hC : C = stC l) (sel : Nat → Nat → Nat) (hsel : ∀ r c, r < 4 → c < 4 → sel r c < 4) (cg : ∀ r c : Nat, r < 4 → c < 4 → Ret 75 #[.int .i64 (r : Int), .int .i64 (c : Int)] (.int .i64 ((sel r c : Nat) : Int))) :
    Mak 74 #[.agg C, .func (.func 75) #[] #[]] (.agg (stC (pickL sel l))) := by
  intro w
  have HC := Lib.hid hC
  have HG := Lib.hid cg
  have HSEL := Lib.hid hsel
  clear hC cg hsel
  obtain ⟨L, hL⟩ : ∃ L, L = pickL sel l := ⟨_, rfl⟩
  rw [← hL]
  have HL := Lib.hid hL
  clear hL
  go_enter Try.func74, Try.ntmps74
  go_wp2_with fail
  go_loopw [8] (fun i wr => ∃ r : Nat, r ≤ 4 ∧ i = .int .i64 (r : Int) ∧ Hid (wr.rowIs (w.heap.size + 2) 64 16 (fun j => if j < 4 * r then stV L j else .int .u8 0)) ∧ Hid (wr.heap[w.heap.size]? = some (.cells (stC l) 64 (0, 0))) ∧ Hid (∃ z, z.size = 16 ∧ wr.heap[w.heap.size + 1]? = some (.cells z 64 (0, 0))) ∧ Hid (Since w wr)) (fun i _ => 4 - (intOf i).toNat)
  case atStart =>
    refine ⟨0, by omega, rfl, Lib.hid ?_, Lib.hid ?_, Lib.hid ?_, Lib.hid ((((Since.refl w).alloc _).alloc _).alloc _)⟩
    · have h := zrow ((w.alloc (.cells C 64)).alloc (.cells #[.int .u8 0, .int .u8 0, .int .u8 0, .int .u8 0, .int .u8 0, .int .u8 0, .int .u8 0, .int .u8 0, .int .u8 0, .int .u8 0, .int .u8 0, .int .u8 0, .int .u8 0, .int .u8 0, .int .u8 0, .int .u8 0] 64)) 64 #[.int .u8 0, .int .u8 0, .int .u8 0, .int .u8 0, .int .u8 0, .int .u8 0, .int .u8 0, .int .u8 0, .int .u8 0, .int .u8 0, .int .u8 0, .int .u8 0, .int .u8 0, .int .u8 0, .int .u8 0, .int .u8 0] rfl z16
      simp only [World.size_alloc'] at h
      exact h.congr fun j hj => by rw [if_neg (by omega)]
    · rw [HC.out]
      exact ((Go.heap_alloc_old _ _ (by simp; omega)).trans (Go.heap_alloc_old _ _ (by simp))).trans (Go.heap_alloc_new _ _)
    · refine ⟨#[.int .u8 0, .int .u8 0, .int .u8 0, .int .u8 0, .int .u8 0, .int .u8 0, .int .u8 0, .int .u8 0, .int .u8 0, .int .u8 0, .int .u8 0, .int .u8 0, .int .u8 0, .int .u8 0, .int .u8 0, .int .u8 0], by rfl, (Go.heap_alloc_old _ _ (by simp)).trans ?_⟩
      have h := Go.heap_alloc_new (w.alloc (.cells C 64)) (.cells #[.int .u8 0, .int .u8 0, .int .u8 0, .int .u8 0, .int .u8 0, .int .u8 0, .int .u8 0, .int .u8 0, .int .u8 0, .int .u8 0, .int .u8 0, .int .u8 0, .int .u8 0, .int .u8 0, .int .u8 0, .int .u8 0] 64)
      simp only [World.size_alloc'] at h
      exact h
  case round =>
    obtain ⟨r, hr, rfl, HR, HB, HZ, HS⟩ := hrel
    by_cases hlt : r < 4
    · have hdb : decide ((r : Int) < 4) = true := decide_eq_true (by omega)
      go_wp2_with fail
      go_loopw [11] (fun i wr => ∃ c : Nat, c ≤ 4 ∧ i = .int .i64 (c : Int) ∧ Hid (wr.rowIs (w.heap.size + 2) 64 16 (fun j => if j < 4 * r + c then stV L j else .int .u8 0)) ∧ Hid (wr.heap[w.heap.size]? = some (.cells (stC l) 64 (0, 0))) ∧ Hid (∃ z, z.size = 16 ∧ wr.heap[w.heap.size + 1]? = some (.cells z 64 (0, 0))) ∧ Hid (Since w wr)) (fun i _ => 4 - (intOf i).toNat)
      case atStart => exact ⟨0, by omega, rfl, HR, HB, HZ, HS⟩
      case round =>
        clear HR HB HZ HS
        obtain ⟨c, hc, rfl, HR, HB, HZ, HS⟩ := hrel
        by_cases hlc : c < 4
        · have cg := HG.out r c hlt hlc
          have hq4 := HSEL.out r c hlt hlc
          have hpa := pick_at sel l r c hlt hlc
          obtain ⟨q, hq⟩ : ∃ q, q = sel r c := ⟨_, rfl⟩
          rw [← hq] at cg hq4 hpa
          have hcl := (arr_row HB.out).cell (i := r * 4 + q) (by omega)
          rw [stV_at l r q _ hlt hq4 rfl] at hcl
          have hco := HR.out.cell (i := r * 4 + c) (by omega)
          have hfo := HR.out.frozen (r * 4 + c)
          have Hpa := Lib.hid hpa
          clear hpa
          clear hq
          go_wp2_with fail
          go_region_with (first | (go_at_call 75; refine cg.calls ?_))
          all_goals
            go_wp2_with fail
            go_roundw
            case rel =>
              refine ⟨c + 1, by omega, by go_num, Lib.hid ((HR.out.set (r * 4 + c) _).drew.congr fun j hj => ?_), Lib.hid ((heap_setCell_other _ _ _ _ (by simp; omega)).trans HB.out), Lib.hid ?_, Lib.hid (Since.drew (Below.setCell (p := ⟨w.heap.size + 2, r * 4 + c, none⟩) HS.out (Nat.le_add_right _ _) _))⟩
              · by_cases h : j = r * 4 + c
                · rw [if_pos h, if_pos (by omega), h, HL.out, Hpa.out]
                · rw [if_neg h]
                  by_cases h3 : j < 4 * r + c
                  · rw [if_pos h3, if_pos (by omega)]
                  · rw [if_neg h3, if_neg (by omega)]
              · obtain ⟨z, hz, hzb⟩ := HZ.out
                exact ⟨z, hz, (heap_setCell_other _ _ _ _ (by simp)).trans hzb⟩
            case measure => simp [intOf]; omega
        · obtain rfl : c = 4 := by omega
          go_wp2_with fail
          go_roundw
          case rel => exact ⟨r + 1, by omega, by go_num, HR, HB, HZ, HS⟩
          case measure => simp [intOf]; omega
    · obtain rfl : r = 4 := by omega
      obtain ⟨z, hz, hzb⟩ := HZ.out
      have hb := row_arr (l := L) HR.out (fun j hj => by rw [if_pos (by omega)])
      go_wp2_with (first | (refine wpList_load_row rfl 64 _ rfl (w.heap.size + 2) (by rfl) _ _ _ _ hb Try.underlying64 rfl (by rw [stC_size]; exact i64st) ?_) | (refine wpList_store_row rfl 64 _ _ rfl (w.heap.size + 1) (stC L) (by rfl) (by rfl) _ _ hzb (by rw [stC_size]; exact i64st) (by rw [stC_size]; exact hz) (stC_one _) ?_))
      exact bodyPost_ret (v := .agg (stC L)) (results_cell_row Try.results74 _ _ _ _ _ _ _ rfl (setRow_heap _ _ _ _ _ _ hzb) Try.underlying64 rfl (by rw [stC_size]; exact i64st)) rfl ⟨rfl, below_setRow HS.out (Nat.le_succ _) _⟩

set_option maxRecDepth 100000 in
set_option maxHeartbeats 2000000 in
theorem pick_ush (l : List UInt8) (C : Array Value) (hC : C = stC l) (sel : Nat → Nat → Nat) (hsel : ∀ r c, r < 4 → c < 4 → sel r c < 4) (cg : ∀ r c : Nat, r < 4 → c < 4 → Ret 76 #[.int .i64 (r : Int), .int .i64 (c : Int)] (.int .i64 ((sel r c : Nat) : Int))) :
    Mak 74 #[.agg C, .func (.func 76) #[] #[]] (.agg (stC (pickL sel l))) := by
  intro w
  have HC := Lib.hid hC
  have HG := Lib.hid cg
  have HSEL := Lib.hid hsel
  clear hC cg hsel
  obtain ⟨L, hL⟩ : ∃ L, L = pickL sel l := ⟨_, rfl⟩
  rw [← hL]
  have HL := Lib.hid hL
  clear hL
  go_enter Try.func74, Try.ntmps74
  go_wp2_with fail
  go_loopw [8] (fun i wr => ∃ r : Nat, r ≤ 4 ∧ i = .int .i64 (r : Int) ∧ Hid (wr.rowIs (w.heap.size + 2) 64 16 (fun j => if j < 4 * r then stV L j else .int .u8 0)) ∧ Hid (wr.heap[w.heap.size]? = some (.cells (stC l) 64 (0, 0))) ∧ Hid (∃ z, z.size = 16 ∧ wr.heap[w.heap.size + 1]? = some (.cells z 64 (0, 0))) ∧ Hid (Since w wr)) (fun i _ => 4 - (intOf i).toNat)
  case atStart =>
    refine ⟨0, by omega, rfl, Lib.hid ?_, Lib.hid ?_, Lib.hid ?_, Lib.hid ((((Since.refl w).alloc _).alloc _).alloc _)⟩
    · have h := zrow ((w.alloc (.cells C 64)).alloc (.cells #[.int .u8 0, .int .u8 0, .int .u8 0, .int .u8 0, .int .u8 0, .int .u8 0, .int .u8 0, .int .u8 0, .int .u8 0, .int .u8 0, .int .u8 0, .int .u8 0, .int .u8 0, .int .u8 0, .int .u8 0, .int .u8 0] 64)) 64 #[.int .u8 0, .int .u8 0, .int .u8 0, .int .u8 0, .int .u8 0, .int .u8 0, .int .u8 0, .int .u8 0, .int .u8 0, .int .u8 0, .int .u8 0, .int .u8 0, .int .u8 0, .int .u8 0, .int .u8 0, .int .u8 0] rfl z16
      simp only [World.size_alloc'] at h
      exact h.congr fun j hj => by rw [if_neg (by omega)]
    · rw [HC.out]
      exact ((Go.heap_alloc_old _ _ (by simp; omega)).trans (Go.heap_alloc_old _ _ (by simp))).trans (Go.heap_alloc_new _ _)
    · refine ⟨#[.int .u8 0, .int .u8 0, .int .u8 0, .int .u8 0, .int .u8 0, .int .u8 0, .int .u8 0, .int .u8 0, .int .u8 0, .int .u8 0, .int .u8 0, .int .u8 0, .int .u8 0, .int .u8 0, .int .u8 0, .int .u8 0], by rfl, (Go.heap_alloc_old _ _ (by simp)).trans ?_⟩
      have h := Go.heap_alloc_new (w.alloc (.cells C 64)) (.cells #[.int .u8 0, .int .u8 0, .int .u8 0, .int .u8 0, .int .u8 0, .int .u8 0, .int .u8 0, .int .u8 0, .int .u8 0, .int .u8 0, .int .u8 0, .int .u8 0, .int .u8 0, .int .u8 0, .int .u8 0, .int .u8 0] 64)
      simp only [World.size_alloc'] at h
      exact h
  case round =>
    obtain ⟨r, hr, rfl, HR, HB, HZ, HS⟩ := hrel
    by_cases hlt : r < 4
    · have hdb : decide ((r : Int) < 4) = true := decide_eq_true (by omega)
      go_wp2_with fail
      go_loopw [11] (fun i wr => ∃ c : Nat, c ≤ 4 ∧ i = .int .i64 (c : Int) ∧ Hid (wr.rowIs (w.heap.size + 2) 64 16 (fun j => if j < 4 * r + c then stV L j else .int .u8 0)) ∧ Hid (wr.heap[w.heap.size]? = some (.cells (stC l) 64 (0, 0))) ∧ Hid (∃ z, z.size = 16 ∧ wr.heap[w.heap.size + 1]? = some (.cells z 64 (0, 0))) ∧ Hid (Since w wr)) (fun i _ => 4 - (intOf i).toNat)
      case atStart => exact ⟨0, by omega, rfl, HR, HB, HZ, HS⟩
      case round =>
        clear HR HB HZ HS
        obtain ⟨c, hc, rfl, HR, HB, HZ, HS⟩ := hrel
        by_cases hlc : c < 4
        · have cg := HG.out r c hlt hlc
          have hq4 := HSEL.out r c hlt hlc
          have hpa := pick_at sel l r c hlt hlc
          obtain ⟨q, hq⟩ : ∃ q, q = sel r c := ⟨_, rfl⟩
          rw [← hq] at cg hq4 hpa
          have hcl := (arr_row HB.out).cell (i := r * 4 + q) (by omega)
          rw [stV_at l r q _ hlt hq4 rfl] at hcl
          have hco := HR.out.cell (i := r * 4 + c) (by omega)
          have hfo := HR.out.frozen (r * 4 + c)
          have Hpa := Lib.hid hpa
          clear hpa
          clear hq
          go_wp2_with fail
          go_region_with (first | (go_at_call 76; refine cg.calls ?_))
          all_goals
            go_wp2_with fail
            go_roundw
            case rel =>
              refine ⟨c + 1, by omega, by go_num, Lib.hid ((HR.out.set (r * 4 + c) _).drew.congr fun j hj => ?_), Lib.hid ((heap_setCell_other _ _ _ _ (by simp; omega)).trans HB.out), Lib.hid ?_, Lib.hid (Since.drew (Below.setCell (p := ⟨w.heap.size + 2, r * 4 + c, none⟩) HS.out (Nat.le_add_right _ _) _))⟩
              · by_cases h : j = r * 4 + c
                · rw [if_pos h, if_pos (by omega), h, HL.out, Hpa.out]
                · rw [if_neg h]
                  by_cases h3 : j < 4 * r + c
                  · rw [if_pos h3, if_pos (by omega)]
                  · rw [if_neg h3, if_neg (by omega)]
              · obtain ⟨z, hz, hzb⟩ := HZ.out
                exact ⟨z, hz, (heap_setCell_other _ _ _ _ (by simp)).trans hzb⟩
            case measure => simp [intOf]; omega
        · obtain rfl : c = 4 := by omega
          go_wp2_with fail
          go_roundw
          case rel => exact ⟨r + 1, by omega, by go_num, HR, HB, HZ, HS⟩
          case measure => simp [intOf]; omega
    · obtain rfl : r = 4 := by omega
      obtain ⟨z, hz, hzb⟩ := HZ.out
      have hb := row_arr (l := L) HR.out (fun j hj => by rw [if_pos (by omega)])
      go_wp2_with (first | (refine wpList_load_row rfl 64 _ rfl (w.heap.size + 2) (by rfl) _ _ _ _ hb Try.underlying64 rfl (by rw [stC_size]; exact i64st) ?_) | (refine wpList_store_row rfl 64 _ _ rfl (w.heap.size + 1) (stC L) (by rfl) (by rfl) _ _ hzb (by rw [stC_size]; exact i64st) (by rw [stC_size]; exact hz) (stC_one _) ?_))
      exact bodyPost_ret (v := .agg (stC L)) (results_cell_row Try.results74 _ _ _ _ _ _ _ rfl (setRow_heap _ _ _ _ _ _ hzb) Try.underlying64 rfl (by rw [stC_size]; exact i64st)) rfl ⟨rfl, below_setRow HS.out (Nat.le_succ _) _⟩
end Rnd
end Go.Proofs.Ytoblmddnefmpoaa
