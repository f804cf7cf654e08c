/- Joined texts. -/
-- PACK: YtpakifiphdlkoaaDoorTabK YtpakifiphdlkoaaDoorKind
import Derived.Test.YtpakifiphdlkoaaDoorCv13

/- Package kind: its lines. -/
namespace Go.Proofs.YtpakifiphdlkoaaDoor
open Go.RowKit Go.Joins Go.Deep
namespace Kind
abbrev Row := List UInt8 × Int × List UInt8 × Int × List UInt8
def rows : List Row := [([65, 69, 83, 45, 49, 50, 56], 16, [65], 0, [50, 46, 49, 54, 46, 56, 52, 48, 46, 49, 46, 49, 48, 49, 46, 51, 46, 52, 46, 49, 46, 49]), ([65, 69, 83, 45, 49, 57, 50], 24, [65], 0, [50, 46, 49, 54, 46, 56, 52, 48, 46, 49, 46, 49, 48, 49, 46, 51, 46, 52, 46, 49, 46, 50, 49]), ([65, 69, 83, 45, 50, 53, 54], 32, [65], 0, [50, 46, 49, 54, 46, 56, 52, 48, 46, 49, 46, 49, 48, 49, 46, 51, 46, 52, 46, 49, 46, 52, 49]), ([84, 68, 69, 83, 45, 50], 16, [84], 0, [49, 46, 50, 46, 56, 52, 48, 46, 49, 49, 51, 53, 52, 57, 46, 51, 46, 55]), ([84, 68, 69, 83, 45, 51], 24, [84], 0, [49, 46, 50, 46, 56, 52, 48, 46, 49, 49, 51, 53, 52, 57, 46, 51, 46, 55]), ([72, 77, 65, 67, 45, 83, 72, 65, 50, 53, 54], 32, [72], 0, [49, 46, 50, 46, 56, 52, 48, 46, 49, 49, 51, 53, 52, 57, 46, 50, 46, 57]), ([72, 77, 65, 67, 45, 83, 72, 65, 53, 49, 50], 64, [72], 0, [49, 46, 50, 46, 56, 52, 48, 46, 49, 49, 51, 53, 52, 57, 46, 50, 46, 49, 49]), ([69, 67, 45, 80, 50, 50, 52], 28, [69], 1, [49, 46, 50, 46, 56, 52, 48, 46, 49, 48, 48, 52, 53, 46, 50, 46, 49]), ([69, 67, 45, 80, 50, 53, 54], 32, [69], 2, [49, 46, 50, 46, 56, 52, 48, 46, 49, 48, 48, 52, 53, 46, 50, 46, 49]), ([69, 67, 45, 80, 51, 56, 52], 48, [69], 3, [49, 46, 50, 46, 56, 52, 48, 46, 49, 48, 48, 52, 53, 46, 50, 46, 49]), ([69, 67, 45, 80, 53, 50, 49], 66, [69], 4, [49, 46, 50, 46, 56, 52, 48, 46, 49, 48, 48, 52, 53, 46, 50, 46, 49])]
def noneR : Row := ([], 0, [], 0, [])
def gT {H : Type} (r : Row) : DataW H := .agg [.lit (.string r.1), .lit (.int .i64 r.2.1), .lit (.string r.2.2.1), .lit (.int .i64 r.2.2.2.1), .lit (.string r.2.2.2.2)]
def fT (r : Row) : List Value := [.string (bs r.1), .int .i64 r.2.1, .string (bs r.2.2.1), .int .i64 r.2.2.2.1, .string (bs r.2.2.2.2)]
theorem rows_laid {H : Type} : (Rows.laid_claviger_kind_lines (H := H)) = .agg (rows.map gT) := rfl
set_option maxRecDepth 100000 in
theorem row_cells {H : Type} {enc : TypeId × Value → H} {w : World} {base : Nat} {sp : Nat → Bool} {held : Bool} {m : Nat} {cs : List Value} {p : List MemPlace} {r : Row} (h : DataW.trod enc Tryd.prog w base sp held m 59 cs = some (gT r, p)) : cs = fT r := by
  obtain ⟨hl, hf⟩ := struct_fields Tryd.underlying59 (by kernel_rfl) (by kernel_rfl) h
  match cs, hl with
  | [v0, v1, v2, v3, v4], _ =>
    obtain ⟨_, _, h0⟩ := hf 0 _ _ v0 rfl rfl rfl
    obtain ⟨_, _, h1⟩ := hf 1 _ _ v1 rfl rfl rfl
    obtain ⟨_, _, h2⟩ := hf 2 _ _ v2 rfl rfl rfl
    obtain ⟨_, _, h3⟩ := hf 3 _ _ v3 rfl rfl rfl
    obtain ⟨_, _, h4⟩ := hf 4 _ _ v4 rfl rfl rfl
    have k0 := lit_str Tryd.underlying9 h0
    have k1 := lit_int Tryd.underlying3 h1
    have k2 := lit_str Tryd.underlying9 h2
    have k3 := lit_int Tryd.underlying3 h3
    have k4 := lit_str Tryd.underlying9 h4
    simp only [List.cons.injEq, and_true] at k0 k1 k2 k3 k4
    rw [k0, k1, k2, k3, k4]; rfl
/-- the lines stand where the program lays them -/
def Tabs (W : World) : Prop := ∀ i r, rows[i]? = some r → ∀ j v, (fT r)[j]? = some v → W.cell? ⟨0, i * 5 + j, none⟩ = some v
theorem Tabs.lt {W : World} (h : Tabs W) : 0 < W.heap.size := block_lt_of_cell (h 0 _ rfl 0 _ rfl)
instance : Kp Tabs := ⟨fun h hb i r hi j v hv => (hb.cell (p := ⟨0, i * 5 + j, none⟩) h.lt).trans (h i r hi j v hv)⟩
set_option maxRecDepth 100000 in
theorem tabs_at {W : World} {H : Type} {enc : TypeId × Value → H} {base : Nat} {sp : Nat → Bool} {held : Bool} {fuel : Nat} {g : Nat} {t : TypeId} {cs : Array Value} {p : List MemPlace} (hg : Tryd.prog.globalNamed "claviger/kind.lines" = some g) (ht : (Tryd.prog.globals[g]?).map (·.type) = some t)
    (hv : W.var? Tryd.prog "claviger/kind.lines" = some cs) (hd : DataW.trod enc Tryd.prog W base sp held fuel t cs.toList = some (Rows.laid_claviger_kind_lines, p)) : Tabs W := by
  have gN : Tryd.prog.globalNamed "claviger/kind.lines" = some 0 := by kernel_rfl
  have tN : (Tryd.prog.globals[0]?).map (·.type) = some 61 := by kernel_rfl
  obtain rfl := Option.some.inj (gN.symm.trans hg)
  obtain rfl := Option.some.inj (tN.symm.trans ht)
  rw [rows_laid] at hd
  have hc := tab_cells (k := 5) rows gT fT Tryd.underlying61 (by kernel_rfl) (fun m cs p a h => row_cells h) hd
  intro i r hi j v hj
  have h9 := World.var?_cell hg hv (i * 5 + j)
  rw [← Array.getElem?_toList, hc i r hi j v hj] at h9
  exact h9
set_option maxRecDepth 100000 in
theorem tabs_of {W : World} (h : laidMetH Tryd.prog [("claviger/kind.lines", Rows.laid_claviger_kind_lines)] W) : Tabs W := by
  rw [MakeChecks.laidMetH_plain _ _ _ (by kernel_rfl)] at h
  obtain ⟨ps, ⟨g0, t0, cs0, f0, p0, q0, hg0, ht0, hv0, hd0, _, _⟩, _, _⟩ := h
  exact tabs_at hg0 ht0 hv0 hd0
/-- all cells, in one array -/
def cells : Array Value := (rows.flatMap fT).toArray
set_option maxRecDepth 100000 in
theorem load_all {W : World} (h : Tabs W) : (Instr.loadAt 61 (.pointer (some ⟨0, 0, none⟩))).run Tryd.prog W = .ok (.agg cells) W := by
  refine run_loadAt_mid (P := Tryd.prog) W 0 0 61 (rows.flatMap fT) _ (fun q v hv => ?_) Tryd.underlying61 rfl (by kernel_rfl)
  have hq : q < 55 := (List.getElem?_eq_some_iff.1 hv).1
  have hr : q / 5 < rows.length := by show q / 5 < 11; omega
  have h2 := flatMap_at fT 5 (fun _ => rfl) rows (q / 5) _ (List.getElem?_eq_getElem hr) (q % 5) (Nat.mod_lt _ (by decide))
  rw [show q / 5 * 5 + q % 5 = q by omega] at h2
  rw [h2] at hv
  have := h _ _ (List.getElem?_eq_getElem hr) _ _ hv
  rw [show q / 5 * 5 + q % 5 = q by omega] at this
  rw [Nat.zero_add]
  exact this
set_option maxRecDepth 100000 in
theorem index_at (i : Nat) (r : Row) (h : rows[i]? = some r) (W : World) : (Instr.index 61 (.agg cells) (.int .i64 (i : Int))).run Tryd.prog W = .ok (.agg #[.string (bs r.1), .int .i64 r.2.1, .string (bs r.2.2.1), .int .i64 r.2.2.2.1, .string (bs r.2.2.2.2)]) W := by
  have hi : i < 11 := (List.getElem?_eq_some_iff.1 h).1
  refine run_index_row (n := 11) (k := 5) Tryd.underlying61 (fun w => by kernel_rfl) (fun w => by kernel_rfl) cells i hi _ ?_ W
  have hall : ∀ i : Fin 11, ∀ r : Row, rows[i.1]? = some r → cells.extract (i.1 * 5) (i.1 * 5 + 5) = #[.string (bs r.1), .int .i64 r.2.1, .string (bs r.2.2.1), .int .i64 r.2.2.2.1, .string (bs r.2.2.2.2)] := by
    intro i r hr
    match i with
    | 0 | 1 | 2 | 3 | 4 | 5 | 6 | 7 | 8 | 9 | 10 => cases hr; rfl
  exact hall ⟨i, hi⟩ r h
end Kind
end Go.Proofs.YtpakifiphdlkoaaDoor

/- Package kind, and its reference: what there is to say of kinds. -/
namespace Go.Proofs.YtpakifiphdlkoaaDoor
open Go.RowKit
namespace Kind
def sizeOf (r : Row) : Int := r.2.1
def mostF (l : List UInt8) (k : Nat) : Int := ((rows.take k).filter (fun r => r.2.2.1 == l)).foldl (fun m r => max m r.2.1) 0
/-- the most bytes of a letter's kinds -/
def mostN (l : List UInt8) : Int := mostF l 11
theorem mostF_step (l : List UInt8) (k : Nat) (r : Row) (h : rows[k]? = some r) : mostF l (k + 1) = if r.2.2.1 == l then max (mostF l k) r.2.1 else mostF l k := by
  unfold mostF
  obtain ⟨h3, h4⟩ := List.getElem?_eq_some_iff.1 h
  rw [List.take_succ_eq_append_getElem h3, h4, List.filter_append, List.foldl_append]
  cases hq : (r.2.2.1 == l) with
  | true => rw [if_pos rfl, List.filter_cons_of_pos (by exact hq)]; rfl
  | false => rw [if_neg (by decide), List.filter_cons_of_neg (by rw [hq]; decide)]; rfl
theorem row_bounds (k : Nat) (r : Row) (h : rows[k]? = some r) : 0 ≤ r.2.1 ∧ r.2.1 ≤ 100 := by
  have hall : ∀ r ∈ rows, 0 ≤ r.2.1 ∧ r.2.1 ≤ 100 := by decide +kernel
  exact hall r (List.mem_of_getElem? h)
theorem mostF_bounds (l : List UInt8) : ∀ k, k ≤ 11 → 0 ≤ mostF l k ∧ mostF l k ≤ 100 := by
  intro k
  induction k with
  | zero => intro _; exact ⟨Int.le_refl 0, show (0 : Int) ≤ 100 by decide⟩
  | succ k ih =>
    intro hk
    obtain ⟨h1, h2⟩ := ih (by omega)
    obtain ⟨r, hr⟩ : ∃ r, rows[k]? = some r := ⟨_, List.getElem?_eq_getElem (show k < 11 by omega)⟩
    obtain ⟨h3, h4⟩ := row_bounds k r hr
    rw [mostF_step l k r hr]
    split <;> omega
set_option maxRecDepth 100000 in
set_option maxHeartbeats 4000000 in
theorem most_k (l : ByteArray) (X : Int) (hX : X = mostN l.data.toList) : KMk Tabs 31 #[.string l] (.int .i64 X) := by
  intro w hT
  have hl := load_all hT
  obtain ⟨D, hD⟩ : ∃ D, D = cells := ⟨_, rfl⟩
  rw [← hD] at hl
  have HX : Hid (∀ (i : Nat) r, rows[i]? = some r → ∀ W, (Instr.index 61 (.agg D) (.int .i64 (i : Int))).run Tryd.prog W = .ok (.agg #[.string (bs r.1), .int .i64 r.2.1, .string (bs r.2.2.1), .int .i64 r.2.2.2.1, .string (bs r.2.2.2.2)]) W) := Lib.hid (fun i r h W => by rw [hD]; exact index_at i r h W)
  have Hl := Lib.hid hl
  have HL := Lib.hid hX
  clear hT hD hl hX
  go_enter Tryd.func31, Tryd.ntmps31
  go_wp2_with ((with_reducible refine wpList_load_run _ _ _ _ (.agg D) ?_ Hl.out ?_) <;> try rfl)
  go_loopw [3, 7] (fun m i wr => ∃ k : Nat, k ≤ 11 ∧ i = .int .i64 (k : Int) ∧ ∃ x : Int, m = .int .i64 x ∧ 0 ≤ x ∧ x ≤ 100 ∧ Hid (x = mostF l.data.toList k) ∧ Hid (Since w wr)) (fun _ i _ => 11 - (intOf i).toNat)
  case atStart => exact ⟨0, by omega, rfl, 0, rfl, by omega, by omega, Lib.hid rfl, Lib.hid (Since.refl w)⟩
  case round =>
    obtain ⟨k, hk, rfl, x, rfl, hx0, hx1, HM, HS⟩ := hrel
    by_cases hlt2 : k < 11
    · obtain ⟨r, hr⟩ : ∃ r, rows[k]? = some r := ⟨rows[k]'hlt2, List.getElem?_eq_getElem _⟩
      have hix := HX.out k r hr
      have hst := mostF_step l.data.toList k r hr
      obtain ⟨hb0, hb1⟩ := row_bounds k r hr
      obtain ⟨q, hq⟩ : ∃ q, (r.2.2.1 == l.data.toList) = q := ⟨_, rfl⟩
      rw [hq, ← HM.out] at hst
      obtain ⟨z, hz⟩ : ∃ z, z = r.2.1 := ⟨_, rfl⟩
      obtain ⟨a, ha⟩ : ∃ a, a = bs r.2.2.1 := ⟨_, rfl⟩
      have t1 : (a.toList == l.toList) = q := by rw [toList_d, toList_d, ha]; exact hq
      rw [← hz] at hix hst hb0 hb1
      rw [← ha] at hix
      generalize bs r.1 = g0 at hix
      generalize r.2.2.2.1 = g1 at hix
      generalize bs r.2.2.2.2 = g2 at hix
      clear hr hq hz ha
      cases q
      · rw [if_neg (by decide)] at hst
        have HM2 := Lib.hid hst.symm
        clear hst
        go_wp2_with fail
        go_roundw
        case rel => exact ⟨k + 1, by omega, by go_num, x, rfl, hx0, hx1, HM2, Lib.hid (HS.out.alloc _)⟩
        case measure => simp [intOf]; omega
      · rw [if_pos rfl] at hst
        have HM2 := Lib.hid hst.symm
        clear hst
        by_cases hxz : x ≤ z
        · have e : max x z = z := by omega
          rw [e] at HM2
          go_wp2_with fail
          go_roundw
          case rel => exact ⟨k + 1, by omega, by go_num, z, by first | rfl | (congr 1; omega), hb0, hb1, HM2, Lib.hid (HS.out.alloc _)⟩
          case measure => simp [intOf]; omega
        · have e : max x z = x := by omega
          rw [e] at HM2
          go_wp2_with fail
          go_roundw
          case rel => exact ⟨k + 1, by omega, by go_num, x, by first | rfl | (congr 1; omega), hx0, hx1, HM2, Lib.hid (HS.out.alloc _)⟩
          case measure => simp [intOf]; omega
    · obtain rfl : k = 11 := by omega
      obtain rfl : X = x := by rw [HL.out, HM.out]; rfl
      go_wp2_with fail
      go_ret
      exact ⟨rfl, HS.out⟩
set_option maxRecDepth 100000 in
theorem rletter_1 : Ret 38 #[.int .i64 1] (.string ⟨#[65]⟩) := by
  intro w
  go_enter Tryd.func38, Tryd.ntmps38
  go_wp2_with fail
  go_ret
  exact ⟨rfl, rfl⟩
set_option maxRecDepth 100000 in
theorem rletter_2 : Ret 38 #[.int .i64 2] (.string ⟨#[65]⟩) := by
  intro w
  go_enter Tryd.func38, Tryd.ntmps38
  go_wp2_with fail
  go_ret
  exact ⟨rfl, rfl⟩
set_option maxRecDepth 100000 in
theorem rletter_3 : Ret 38 #[.int .i64 3] (.string ⟨#[65]⟩) := by
  intro w
  go_enter Tryd.func38, Tryd.ntmps38
  go_wp2_with fail
  go_ret
  exact ⟨rfl, rfl⟩
set_option maxRecDepth 100000 in
theorem rletter_4 : Ret 38 #[.int .i64 4] (.string ⟨#[84]⟩) := by
  intro w
  go_enter Tryd.func38, Tryd.ntmps38
  go_wp2_with fail
  go_ret
  exact ⟨rfl, rfl⟩
set_option maxRecDepth 100000 in
theorem rletter_5 : Ret 38 #[.int .i64 5] (.string ⟨#[84]⟩) := by
  intro w
  go_enter Tryd.func38, Tryd.ntmps38
  go_wp2_with fail
  go_ret
  exact ⟨rfl, rfl⟩
set_option maxRecDepth 100000 in
theorem rletter_6 : Ret 38 #[.int .i64 6] (.string ⟨#[72]⟩) := by
  intro w
  go_enter Tryd.func38, Tryd.ntmps38
  go_wp2_with fail
  go_ret
  exact ⟨rfl, rfl⟩
set_option maxRecDepth 100000 in
theorem rletter_7 : Ret 38 #[.int .i64 7] (.string ⟨#[72]⟩) := by
  intro w
  go_enter Tryd.func38, Tryd.ntmps38
  go_wp2_with fail
  go_ret
  exact ⟨rfl, rfl⟩
set_option maxRecDepth 100000 in
theorem rletter_8 : Ret 38 #[.int .i64 8] (.string ⟨#[69]⟩) := by
  intro w
  go_enter Tryd.func38, Tryd.ntmps38
  go_wp2_with fail
  go_ret
  exact ⟨rfl, rfl⟩
set_option maxRecDepth 100000 in
theorem rletter_9 : Ret 38 #[.int .i64 9] (.string ⟨#[69]⟩) := by
  intro w
  go_enter Tryd.func38, Tryd.ntmps38
  go_wp2_with fail
  go_ret
  exact ⟨rfl, rfl⟩
set_option maxRecDepth 100000 in
theorem rletter_10 : Ret 38 #[.int .i64 10] (.string ⟨#[69]⟩) := by
  intro w
  go_enter Tryd.func38, Tryd.ntmps38
  go_wp2_with fail
  go_ret
  exact ⟨rfl, rfl⟩
set_option maxRecDepth 100000 in
theorem rletter_11 : Ret 38 #[.int .i64 11] (.string ⟨#[69]⟩) := by
  intro w
  go_enter Tryd.func38, Tryd.ntmps38
  go_wp2_with fail
  go_ret
  exact ⟨rfl, rfl⟩
set_option maxRecDepth 100000 in
theorem rsize_1 : Ret 36 #[.int .i64 1] (.int .i64 16) := by
  intro w
  go_enter Tryd.func36, Tryd.ntmps36
  go_wp2_with fail
  go_ret
  exact ⟨rfl, rfl⟩
set_option maxRecDepth 100000 in
theorem rsize_2 : Ret 36 #[.int .i64 2] (.int .i64 24) := by
  intro w
  go_enter Tryd.func36, Tryd.ntmps36
  go_wp2_with fail
  go_ret
  exact ⟨rfl, rfl⟩
set_option maxRecDepth 100000 in
theorem rsize_3 : Ret 36 #[.int .i64 3] (.int .i64 32) := by
  intro w
  go_enter Tryd.func36, Tryd.ntmps36
  go_wp2_with fail
  go_ret
  exact ⟨rfl, rfl⟩
set_option maxRecDepth 100000 in
theorem rsize_4 : Ret 36 #[.int .i64 4] (.int .i64 16) := by
  intro w
  go_enter Tryd.func36, Tryd.ntmps36
  go_wp2_with fail
  go_ret
  exact ⟨rfl, rfl⟩
set_option maxRecDepth 100000 in
theorem rsize_5 : Ret 36 #[.int .i64 5] (.int .i64 24) := by
  intro w
  go_enter Tryd.func36, Tryd.ntmps36
  go_wp2_with fail
  go_ret
  exact ⟨rfl, rfl⟩
set_option maxRecDepth 100000 in
theorem rsize_6 : Ret 36 #[.int .i64 6] (.int .i64 32) := by
  intro w
  go_enter Tryd.func36, Tryd.ntmps36
  go_wp2_with fail
  go_ret
  exact ⟨rfl, rfl⟩
set_option maxRecDepth 100000 in
theorem rsize_7 : Ret 36 #[.int .i64 7] (.int .i64 64) := by
  intro w
  go_enter Tryd.func36, Tryd.ntmps36
  go_wp2_with fail
  go_ret
  exact ⟨rfl, rfl⟩
set_option maxRecDepth 100000 in
theorem rsize_8 : Ret 36 #[.int .i64 8] (.int .i64 28) := by
  intro w
  go_enter Tryd.func36, Tryd.ntmps36
  go_wp2_with fail
  go_ret
  exact ⟨rfl, rfl⟩
set_option maxRecDepth 100000 in
theorem rsize_9 : Ret 36 #[.int .i64 9] (.int .i64 32) := by
  intro w
  go_enter Tryd.func36, Tryd.ntmps36
  go_wp2_with fail
  go_ret
  exact ⟨rfl, rfl⟩
set_option maxRecDepth 100000 in
theorem rsize_10 : Ret 36 #[.int .i64 10] (.int .i64 48) := by
  intro w
  go_enter Tryd.func36, Tryd.ntmps36
  go_wp2_with fail
  go_ret
  exact ⟨rfl, rfl⟩
set_option maxRecDepth 100000 in
theorem rsize_11 : Ret 36 #[.int .i64 11] (.int .i64 66) := by
  intro w
  go_enter Tryd.func36, Tryd.ntmps36
  go_wp2_with fail
  go_ret
  exact ⟨rfl, rfl⟩
set_option maxRecDepth 100000 in
theorem rletter_no (k : Int) (h : k < 1 ∨ 11 < k) : Ret 38 #[.int .i64 k] (.string ⟨#[]⟩) := by
  intro w
  have a1 : (k == 1) = false := by rw [beq_eq_false_iff_ne]; omega
  have a2 : (k == 2) = false := by rw [beq_eq_false_iff_ne]; omega
  have a3 : (k == 3) = false := by rw [beq_eq_false_iff_ne]; omega
  have a4 : (k == 4) = false := by rw [beq_eq_false_iff_ne]; omega
  have a5 : (k == 5) = false := by rw [beq_eq_false_iff_ne]; omega
  have a6 : (k == 6) = false := by rw [beq_eq_false_iff_ne]; omega
  have a7 : (k == 7) = false := by rw [beq_eq_false_iff_ne]; omega
  have a8 : (k == 8) = false := by rw [beq_eq_false_iff_ne]; omega
  have a9 : (k == 9) = false := by rw [beq_eq_false_iff_ne]; omega
  have a10 : (k == 10) = false := by rw [beq_eq_false_iff_ne]; omega
  have a11 : (k == 11) = false := by rw [beq_eq_false_iff_ne]; omega
  by_cases h1 : k < 1
  · clear h
    go_enter Tryd.func38, Tryd.ntmps38
    go_wp2_with fail
    go_ret
    exact ⟨rfl, rfl⟩
  · have h2 : 11 < k := by omega
    clear h
    go_enter Tryd.func38, Tryd.ntmps38
    go_wp2_with fail
    go_ret
    exact ⟨rfl, rfl⟩
set_option maxRecDepth 100000 in
theorem rsize_no (k : Int) (h : k < 1 ∨ 11 < k) : Ret 36 #[.int .i64 k] (.int .i64 0) := by
  intro w
  have a1 : (k == 1) = false := by rw [beq_eq_false_iff_ne]; omega
  have a2 : (k == 2) = false := by rw [beq_eq_false_iff_ne]; omega
  have a3 : (k == 3) = false := by rw [beq_eq_false_iff_ne]; omega
  have a4 : (k == 4) = false := by rw [beq_eq_false_iff_ne]; omega
  have a5 : (k == 5) = false := by rw [beq_eq_false_iff_ne]; omega
  have a6 : (k == 6) = false := by rw [beq_eq_false_iff_ne]; omega
  have a7 : (k == 7) = false := by rw [beq_eq_false_iff_ne]; omega
  have a8 : (k == 8) = false := by rw [beq_eq_false_iff_ne]; omega
  have a9 : (k == 9) = false := by rw [beq_eq_false_iff_ne]; omega
  have a10 : (k == 10) = false := by rw [beq_eq_false_iff_ne]; omega
  have a11 : (k == 11) = false := by rw [beq_eq_false_iff_ne]; omega
  by_cases h1 : k < 1
  · clear h
    go_enter Tryd.func36, Tryd.ntmps36
    go_wp2_with fail
    go_ret
    exact ⟨rfl, rfl⟩
  · have h2 : 11 < k := by omega
    clear h
    go_enter Tryd.func36, Tryd.ntmps36
    go_wp2_with fail
    go_ret
    exact ⟨rfl, rfl⟩
theorem rletter_at (i : Nat) (r : Row) (h : rows[i]? = some r) : Ret 38 #[.int .i64 ((i : Int) + 1)] (.string (bs r.2.2.1)) := by
  have hi : i < 11 := (List.getElem?_eq_some_iff.1 h).1
  match i, hi, h with
  | 0, _, h => cases h; exact rletter_1
  | 1, _, h => cases h; exact rletter_2
  | 2, _, h => cases h; exact rletter_3
  | 3, _, h => cases h; exact rletter_4
  | 4, _, h => cases h; exact rletter_5
  | 5, _, h => cases h; exact rletter_6
  | 6, _, h => cases h; exact rletter_7
  | 7, _, h => cases h; exact rletter_8
  | 8, _, h => cases h; exact rletter_9
  | 9, _, h => cases h; exact rletter_10
  | 10, _, h => cases h; exact rletter_11
theorem rsize_at (i : Nat) (r : Row) (h : rows[i]? = some r) : Ret 36 #[.int .i64 ((i : Int) + 1)] (.int .i64 r.2.1) := by
  have hi : i < 11 := (List.getElem?_eq_some_iff.1 h).1
  match i, hi, h with
  | 0, _, h => cases h; exact rsize_1
  | 1, _, h => cases h; exact rsize_2
  | 2, _, h => cases h; exact rsize_3
  | 3, _, h => cases h; exact rsize_4
  | 4, _, h => cases h; exact rsize_5
  | 5, _, h => cases h; exact rsize_6
  | 6, _, h => cases h; exact rsize_7
  | 7, _, h => cases h; exact rsize_8
  | 8, _, h => cases h; exact rsize_9
  | 9, _, h => cases h; exact rsize_10
  | 10, _, h => cases h; exact rsize_11
set_option maxRecDepth 100000 in
set_option maxHeartbeats 4000000 in
theorem rmost_ret (l : ByteArray) (X : Int) (hX : X = mostN l.data.toList) : Ret 32 #[.string l] (.int .i64 X) := by
  intro w
  have HL := Lib.hid hX
  clear hX
  go_enter Tryd.func32, Tryd.ntmps32
  go_wp2_with fail
  go_loop [3, 4] (fun m i => ∃ k : Nat, k ≤ 11 ∧ i = .int .i64 ((k : Int) + 1) ∧ ∃ x : Int, m = .int .i64 x ∧ 0 ≤ x ∧ x ≤ 100 ∧ Hid (x = mostF l.data.toList k)) (fun _ i => 12 - (intOf i).toNat)
  case atStart => exact ⟨0, by omega, rfl, 0, rfl, by omega, by omega, Lib.hid rfl⟩
  case round =>
    obtain ⟨k, hk, rfl, x, rfl, hx0, hx1, HM⟩ := hrel
    by_cases hlt2 : k < 11
    · obtain ⟨r, hr⟩ : ∃ r, rows[k]? = some r := ⟨rows[k]'hlt2, List.getElem?_eq_getElem _⟩
      have hst := mostF_step l.data.toList k r hr
      obtain ⟨hb0, hb1⟩ := row_bounds k r hr
      obtain ⟨q, hq⟩ : ∃ q, (r.2.2.1 == l.data.toList) = q := ⟨_, rfl⟩
      rw [hq, ← HM.out] at hst
      have c1 := rletter_at k r hr
      have c2 := rsize_at k r hr
      obtain ⟨z, hz⟩ : ∃ z, z = r.2.1 := ⟨_, rfl⟩
      obtain ⟨a, ha⟩ : ∃ a, a = bs r.2.2.1 := ⟨_, rfl⟩
      have t1 : (a.toList == l.toList) = q := by rw [toList_d, toList_d, ha]; exact hq
      rw [← hz] at hst hb0 hb1 c2
      rw [← ha] at c1
      clear hr hq hz ha
      cases q
      · rw [if_neg (by decide)] at hst
        have HM2 := Lib.hid hst.symm
        clear hst
        go_wp2_with fail
        repeat (first
          | (with_reducible refine c1.calls ?_; try go_wp2_with fail)
          | (with_reducible refine c2.calls ?_; try go_wp2_with fail))
        go_round
        case rel => exact ⟨k + 1, by omega, by go_num, x, rfl, hx0, hx1, HM2⟩
        case measure => simp [intOf]; omega
      · rw [if_pos rfl] at hst
        have HM2 := Lib.hid hst.symm
        clear hst
        by_cases hxz : x < z
        · have e : max x z = z := by omega
          have t2 : decide (x < z) = true := decide_eq_true hxz
          rw [e] at HM2
          go_wp2_with fail
          repeat (first
            | (with_reducible refine c1.calls ?_; try go_wp2_with fail)
            | (with_reducible refine c2.calls ?_; try go_wp2_with fail))
          go_round
          case rel => exact ⟨k + 1, by omega, by go_num, z, rfl, hb0, hb1, HM2⟩
          case measure => simp [intOf]; omega
        · have e : max x z = x := by omega
          have t2 : decide (x < z) = false := decide_eq_false hxz
          rw [e] at HM2
          go_wp2_with fail
          repeat (first
            | (with_reducible refine c1.calls ?_; try go_wp2_with fail)
            | (with_reducible refine c2.calls ?_; try go_wp2_with fail))
          go_round
          case rel => exact ⟨k + 1, by omega, by go_num, x, rfl, hx0, hx1, HM2⟩
          case measure => simp [intOf]; omega
    · obtain rfl : k = 11 := by omega
      obtain rfl : X = x := by rw [HL.out, HM.out]; rfl
      go_wp2_with fail
      go_ret
      exact ⟨rfl, rfl⟩
end Kind
end Go.Proofs.YtpakifiphdlkoaaDoor
