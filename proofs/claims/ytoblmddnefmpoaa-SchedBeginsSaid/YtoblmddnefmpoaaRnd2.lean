/- Package round: columns mixed. -/
import Derived.Test.YtoblmddnefmpoaaRnd
import Derived.Test.YtoblmddnefmpoaaField
import Derived.Test.YtoblmddnefmpoaaSbox
import Derived.StillTailTactics
namespace Go.Proofs.Ytoblmddnefmpoaa
open Go.RowKit
namespace Rnd

theorem Ret.still {f : Nat} {args : Array Value} {v : Value} (h : Ret f args v) (w : World) : Calls Try.prog f args w fun e w' => e = .returned v ∧ w' = w := (h w).mono fun _ _ ⟨he, hw⟩ => ⟨he, hw.symm⟩
theorem mul_r (a b : Nat) (ha : a < 256) (hb : b < 256) : Ret 84 #[.int .u8 (a : Int), .int .u8 (b : Int)] (.int .u8 ((Gf.mul a b : Nat) : Int)) := fun w => by
  have h := Field.mul_any (a : Int) (b : Int) w (by omega) (by omega) (by omega) (by omega)
  simpa using h
theorem add_r (a b : Nat) (ha : a < 256) (hb : b < 256) : Ret 87 #[.int .u8 (a : Int), .int .u8 (b : Int)] (.int .u8 ((a ^^^ b : Nat) : Int)) := fun w => by
  have h := Field.add_any (a : Int) (b : Int) w (by omega) (by omega) (by omega) (by omega)
  simpa using h
/-- the sum of the first n products for byte i -/
def mixP (fac : Nat → Nat) (l : List UInt8) (i : Nat) : Nat → Nat
  | 0 => 0
  | n + 1 => mixP fac l i n ^^^ Gf.mul (ent l (4 * (i / 4) + (i % 4 + n) % 4)) (fac n)
theorem mixP_lt (fac : Nat → Nat) (l : List UInt8) (i n : Nat) : mixP fac l i n < 256 := by
  induction n with
  | zero => exact Nat.zero_lt_succ _
  | succ n ih => exact Nat.xor_lt_two_pow (n := 8) ih (Gf.mul_lt _ _ (ent_lt _ _))
def mixL (fac : Nat → Nat) (l : List UInt8) : List UInt8 := mk16 fun i => mixP fac l i 4
theorem mix_at (fac : Nat → Nat) (l : List UInt8) (r c : Nat) (hr : r < 4) (hc : c < 4) : stV (mixL fac l) (r * 4 + c) = .int .u8 ((mixP fac l (4 * c + r) 4 : Nat) : Int) := by
  rw [stV_at _ r c (4 * c + r) hr hc rfl, mixL, mk16_ent (fun i => mixP fac l i 4) (4 * c + r) (by omega) (mixP_lt _ _ _ _)]
theorem mixP_succ (fac : Nat → Nat) (l : List UInt8) (r c n q : Nat) (hr : r < 4) (hc : c < 4) (hq : q = (r + n) % 4) : mixP fac l (4 * c + r) (n + 1) = mixP fac l (4 * c + r) n ^^^ Gf.mul (ent l (4 * c + q)) (fac n) := by
  rw [mixP, show (4 * c + r) / 4 = c from by omega, show (4 * c + r) % 4 = r from by omega, hq]
set_option maxRecDepth 100000 in
set_option maxHeartbeats 4000000 in
theorem times_mak (l : List UInt8) (C : Array Value) (hC : C = stC l) (fac : Nat → Nat) (hfac : ∀ j, j < 4 → fac j < 256) (F : Array Value) (hF : F = #[.int .u8 ((fac 0 : Nat) : Int), .int .u8 ((fac 1 : Nat) : Int), .int .u8 ((fac 2 : Nat) : Int), .int .u8 ((fac 3 : Nat) : Int)]) :
    Mak 77 #[.agg C, .agg F] (.agg (stC (mixL fac l))) := by
  intro w
  have HC := Lib.hid hC
  have HF := Lib.hid hF
  have HFAC := Lib.hid hfac
  clear hC hF hfac
  obtain ⟨L, hL⟩ : ∃ L, L = mixL fac l := ⟨_, rfl⟩
  rw [← hL]
  have HL := Lib.hid hL
  clear hL
  go_enter Try.func77, Try.ntmps77
  go_wp2_with fail
  go_loopw [9] (fun i wr => ∃ r : Nat, r ≤ 4 ∧ i = .int .i64 (r : Int) ∧ Hid (wr.rowIs (w.heap.size + 3) 64 16 (fun p => if p < r * 4 then stV L p else .int .u8 0)) ∧ Hid (wr.heap[w.heap.size]? = some (.cells (stC l) 64 (0, 0))) ∧ Hid (wr.rowIs (w.heap.size + 1) 62 4 (fun j => .int .u8 ((fac j : Nat) : Int))) ∧ Hid (∃ z, z.size = 16 ∧ wr.heap[w.heap.size + 2]? = some (.cells z 64 (0, 0))) ∧ Hid (Since w wr)) (fun i _ => 4 - (intOf i).toNat)
  case atStart =>
    refine ⟨0, by omega, rfl, Lib.hid ?_, Lib.hid ?_, Lib.hid ?_, Lib.hid ?_, Lib.hid (((((Since.refl w).alloc _).alloc _).alloc _).alloc _)⟩
    · have h := zrow (((w.alloc (.cells C 64)).alloc (.cells F 62)).alloc (.cells #[.int .u8 0, .int .u8 0, .int .u8 0, .int .u8 0, .int .u8 0, .int .u8 0, .int .u8 0, .int .u8 0, .int .u8 0, .int .u8 0, .int .u8 0, .int .u8 0, .int .u8 0, .int .u8 0, .int .u8 0, .int .u8 0] 64)) 64 #[.int .u8 0, .int .u8 0, .int .u8 0, .int .u8 0, .int .u8 0, .int .u8 0, .int .u8 0, .int .u8 0, .int .u8 0, .int .u8 0, .int .u8 0, .int .u8 0, .int .u8 0, .int .u8 0, .int .u8 0, .int .u8 0] rfl z16
      simp only [World.size_alloc'] at h
      exact h.congr fun j hj => by rw [if_neg (by omega)]
    · rw [HC.out]
      exact (((Go.heap_alloc_old _ _ (by simp; omega)).trans (Go.heap_alloc_old _ _ (by simp; omega))).trans (Go.heap_alloc_old _ _ (by simp))).trans (Go.heap_alloc_new _ _)
    · have h := World.rowIs_alloc (w.alloc (.cells C 64)) F 62 (fun j => .int .u8 ((fac j : Nat) : Int)) (fun i hi => by
        rw [HF.out] at hi ⊢
        match i, hi with
        | 0, _ | 1, _ | 2, _ | 3, _ => rfl
        | n + 4, hi => simp at hi; omega)
      rw [show F.size = 4 from by rw [HF.out]; rfl] at h
      simp only [World.size_alloc'] at h
      exact (h.alloc _).alloc _
    · refine ⟨#[.int .u8 0, .int .u8 0, .int .u8 0, .int .u8 0, .int .u8 0, .int .u8 0, .int .u8 0, .int .u8 0, .int .u8 0, .int .u8 0, .int .u8 0, .int .u8 0, .int .u8 0, .int .u8 0, .int .u8 0, .int .u8 0], by rfl, (Go.heap_alloc_old _ _ (by simp)).trans ?_⟩
      have h := Go.heap_alloc_new ((w.alloc (.cells C 64)).alloc (.cells F 62)) (.cells #[.int .u8 0, .int .u8 0, .int .u8 0, .int .u8 0, .int .u8 0, .int .u8 0, .int .u8 0, .int .u8 0, .int .u8 0, .int .u8 0, .int .u8 0, .int .u8 0, .int .u8 0, .int .u8 0, .int .u8 0, .int .u8 0] 64)
      simp only [World.size_alloc'] at h
      exact h
  case round =>
    obtain ⟨r, hr, rfl, HR, HB, HK, HZ, HS⟩ := hrel
    by_cases hlt : r < 4
    · have hdb : decide ((r : Int) < 4) = true := decide_eq_true (by omega)
      go_wp2_with fail
      go_loopw [12] (fun i wr => ∃ c : Nat, c ≤ 4 ∧ i = .int .i64 (c : Int) ∧ Hid (wr.rowIs (w.heap.size + 3) 64 16 (fun p => if p < r * 4 + c then stV L p else .int .u8 0)) ∧ Hid (wr.heap[w.heap.size]? = some (.cells (stC l) 64 (0, 0))) ∧ Hid (wr.rowIs (w.heap.size + 1) 62 4 (fun j => .int .u8 ((fac j : Nat) : Int))) ∧ Hid (∃ z, z.size = 16 ∧ wr.heap[w.heap.size + 2]? = some (.cells z 64 (0, 0))) ∧ Hid (Since w wr)) (fun i _ => 4 - (intOf i).toNat)
      case atStart => exact ⟨0, by omega, rfl, HR, HB, HK, HZ, HS⟩
      case round =>
        clear HR HB HK HZ HS
        obtain ⟨c, hc, rfl, HR, HB, HK, HZ, HS⟩ := hrel
        by_cases hlc : c < 4
        · have hdc : decide ((c : Int) < 4) = true := decide_eq_true (by omega)
          go_wp2_with fail
          go_loopw [15] (fun i wr => ∃ n : Nat, n ≤ 4 ∧ i = .int .i64 (n : Int) ∧ Hid (wr.rowIs (w.heap.size + 3) 64 16 (fun p => if p < r * 4 + c then stV L p else if p = r * 4 + c then .int .u8 ((mixP fac l (4 * c + r) n : Nat) : Int) else .int .u8 0)) ∧ Hid (wr.heap[w.heap.size]? = some (.cells (stC l) 64 (0, 0))) ∧ Hid (wr.rowIs (w.heap.size + 1) 62 4 (fun j => .int .u8 ((fac j : Nat) : Int))) ∧ Hid (∃ z, z.size = 16 ∧ wr.heap[w.heap.size + 2]? = some (.cells z 64 (0, 0))) ∧ Hid (Since w wr)) (fun i _ => 4 - (intOf i).toNat)
          case atStart => exact ⟨0, by omega, rfl, Lib.hid (HR.out.congr fun p hp => by
            by_cases h : p < r * 4 + c
            · rw [if_pos h, if_pos h]
            · rw [if_neg h, if_neg h]; split <;> rfl), HB, HK, HZ, HS⟩
          case round =>
            clear HR HB HK HZ HS
            obtain ⟨n, hn, rfl, HR, HB, HK, HZ, HS⟩ := hrel
            by_cases hln : n < 4
            · obtain ⟨q, hq⟩ : ∃ q, q = (r + n) % 4 := ⟨_, rfl⟩
              have hq4 : q < 4 := by omega
              have e1 : ((r : Int) + (n : Int)) % 4 = (q : Int) := by omega
              have e2 : ((r : Int) + (n : Int)).tmod 4 = (q : Int) := by rw [Int.tmod_eq_emod_of_nonneg (by omega)]; exact e1
              have e3 : IntKind.i64.wrap ((r : Int) + (n : Int)) = (r : Int) + (n : Int) := IntWalk.i64_in _ (by omega)
              have hsucc := mixP_succ fac l r c n q hlt hlc hq
              have hcl := (arr_row HB.out).cell (i := q * 4 + c) (by omega)
              rw [stV_at l q c _ hq4 hlc rfl] at hcl
              have hck := HK.out.cell (i := n) hln
              have hco := HR.out.cell (i := r * 4 + c) (by omega)
              rw [if_neg (by omega), if_pos rfl] at hco
              have hfo := HR.out.frozen (r * 4 + c)
              have hm1 := ent_lt l (4 * c + q)
              have hm2 := mixP_lt fac l (4 * c + r) n
              have hm3 := HFAC.out n hln
              obtain ⟨x, hx⟩ : ∃ x, x = ent l (4 * c + q) := ⟨_, rfl⟩
              obtain ⟨y, hy⟩ : ∃ y, y = fac n := ⟨_, rfl⟩
              obtain ⟨m, hm⟩ : ∃ m, m = mixP fac l (4 * c + r) n := ⟨_, rfl⟩
              rw [← hx] at hcl hm1 hsucc
              rw [← hy] at hck hm3 hsucc
              rw [← hm] at hco hm2 hsucc
              have c1 := mul_r x y hm1 hm3
              have c2 := add_r m (Gf.mul x y) hm2 (Gf.mul_lt _ _ hm1)
              obtain ⟨z, hz⟩ : ∃ z, z = Gf.mul x y := ⟨_, rfl⟩
              rw [← hz] at c1 c2 hsucc
              obtain ⟨v, hv⟩ : ∃ v, v = m ^^^ z := ⟨_, rfl⟩
              rw [← hv] at c2 hsucc
              have Hsucc := Lib.hid hsucc
              clear hsucc
              have i1 : (0 : Int) ≤ (r : Int) := by omega
              have i2 : (r : Int) < 4 := by omega
              have i3 : (0 : Int) ≤ (c : Int) := by omega
              have i4 : (c : Int) < 4 := by omega
              have i5 : (0 : Int) ≤ (n : Int) := by omega
              have i6 : (n : Int) < 4 := by omega
              have i7 : (0 : Int) ≤ (q : Int) := by omega
              have i8 : (q : Int) < 4 := by omega
              clear hq hx hy hm hz hv hm1 hm2 hm3
              go_wp2_with fail
              refine wp_region_still_tail 22 (by kernel_rfl) (by kernel_rfl) ?_
              simp only [List.take_succ_cons, List.take_zero, List.drop_succ_cons, List.drop_zero]
              change wpStill _ _ wr.drew (fun a' => wpList _ _ _ _ a' wr.drew) _ _
              repeat (first
                | (refine wpStill_step (fun K hK => ?_); go_simp; refine hK _ ?_; clear hK K)
                | (refine wpStill_step (fun K hK => ?_); go_simp; refine ⟨_, Ret.still c1 _, hK _ ?_⟩; clear hK K)
                | (refine wpStill_step (fun K hK => ?_); go_simp; refine ⟨_, Ret.still c2 _, hK _ ?_⟩; clear hK K))
              refine wpStill_nil ?_
              all_goals
                go_wp2_with fail
                go_roundw
                case rel =>
                  refine ⟨n + 1, by omega, by go_num, Lib.hid ((HR.out.set (r * 4 + c) _).drew.congr fun p hp => ?_), Lib.hid ((heap_setCell_other _ _ _ _ (by simp; omega)).trans HB.out), Lib.hid ((HK.out.setOther (by simp) _).drew), Lib.hid ?_, Lib.hid (Since.drew (Below.setCell (p := ⟨w.heap.size + 3, r * 4 + c, none⟩) HS.out (Nat.le_add_right _ _) _))⟩
                  · by_cases h : p = r * 4 + c
                    · rw [if_pos h, if_neg (by omega), if_pos h, Hsucc.out]
                    · rw [if_neg h]
                      by_cases h3 : p < r * 4 + c
                      · rw [if_pos h3, if_pos h3]
                      · rw [if_neg h3, if_neg h, if_neg h3, if_neg h]
                  · obtain ⟨z, hz, hzb⟩ := HZ.out
                    exact ⟨z, hz, (heap_setCell_other _ _ _ _ (by simp)).trans hzb⟩
                case measure => simp [intOf]; omega
            · obtain rfl : n = 4 := by omega
              have hma := mix_at fac l r c hlt hlc
              have Hma := Lib.hid hma
              clear hma
              go_wp2_with fail
              go_roundw
              case rel => exact ⟨c + 1, by omega, by go_num, Lib.hid (HR.out.congr fun p hp => by
                by_cases h : p = r * 4 + c
                · rw [if_neg (by omega), if_pos h, if_pos (by omega), h, HL.out, Hma.out]
                · by_cases h3 : p < r * 4 + c
                  · rw [if_pos h3, if_pos (by omega)]
                  · rw [if_neg h3, if_neg h, if_neg (by omega)]), HB, HK, HZ, HS⟩
              case measure => simp [intOf]; omega
        · obtain rfl : c = 4 := by omega
          go_wp2_with fail
          go_roundw
          case rel => exact ⟨r + 1, by omega, by go_num, Lib.hid (HR.out.congr fun p hp => by
            by_cases h3 : p < r * 4 + 4
            · rw [if_pos h3, if_pos (by omega)]
            · rw [if_neg h3, if_neg (by omega)]), HB, HK, HZ, HS⟩
          case measure => simp [intOf]; omega
    · obtain rfl : r = 4 := by omega
      obtain ⟨z, hz, hzb⟩ := HZ.out
      have hb := row_arr (l := L) HR.out (fun j hj => by rw [if_pos (by omega)])
      go_wp2_with (first | (refine wpList_load_row rfl 64 _ rfl (w.heap.size + 3) (by rfl) _ _ _ _ hb Try.underlying64 rfl (by rw [stC_size]; exact i64st) ?_) | (refine wpList_store_row rfl 64 _ _ rfl (w.heap.size + 2) (stC L) (by rfl) (by rfl) _ _ hzb (by rw [stC_size]; exact i64st) (by rw [stC_size]; exact hz) (stC_one _) ?_))
      exact bodyPost_ret (v := .agg (stC L)) (results_cell_row Try.results77 _ _ _ _ _ _ _ rfl (setRow_heap _ _ _ _ _ _ hzb) Try.underlying64 rfl (by rw [stC_size]; exact i64st)) rfl ⟨rfl, below_setRow HS.out (Nat.le_add_right _ _) _⟩
end Rnd
end Go.Proofs.Ytoblmddnefmpoaa
