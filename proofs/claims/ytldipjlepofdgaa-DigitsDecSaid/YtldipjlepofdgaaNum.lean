/- The walk of digits.Num. -/
import Derived.Test.YtldipjlepofdgaaBase
import Derived.Test.YtldipjlepofdgaaMem
import Derived.Test.YtldipjlepofdgaaStr
import Derived.Test.YtldipjlepofdgaaDig
import Derived.Test.YtldipjlepofdgaaDig2
import Derived.Laws.BytesArg
namespace Go.Proofs.Ytldipjlepofdgaa
open Go.RowKit
namespace Dig

theorem slice20 (k b : Nat) (h0 : 1 ≤ k) (h1 : k ≤ 20) : ∀ w : World,
    (Instr.sliceAt 61 (.pointer (some ⟨b, 0, none⟩)) (some (.int .i64 (20 - (k : Int)))) none none).run Try.prog w = .ok (.slice (some ⟨b, 20 - k, none⟩) k k) w := by
  intro w
  rcases (show k = 1 ∨ k = 2 ∨ k = 3 ∨ k = 4 ∨ k = 5 ∨ k = 6 ∨ k = 7 ∨ k = 8 ∨ k = 9 ∨ k = 10 ∨ k = 11 ∨ k = 12 ∨ k = 13 ∨ k = 14 ∨ k = 15 ∨ k = 16 ∨ k = 17 ∨ k = 18 ∨ k = 19 ∨ k = 20 by omega) with rfl | rfl | rfl | rfl | rfl | rfl | rfl | rfl | rfl | rfl | rfl | rfl | rfl | rfl | rfl | rfl | rfl | rfl | rfl | rfl <;> kernel_rfl
theorem neg_mod (r : Int) (q : Nat) (h : r = -(q : Int)) : r.tmod 10 = -((q % 10 : Nat) : Int) := by
  rw [h, Int.neg_tmod, Int.tmod_eq_emod_of_nonneg (by omega)]; simp
theorem neg_div (r : Int) (q : Nat) (h : r = -(q : Int)) : r.tdiv 10 = -((q / 10 : Nat) : Int) := by
  rw [h, Int.neg_tdiv, Int.tdiv_eq_ediv_of_nonneg (by omega)]; simp

set_option maxHeartbeats 2000000 in
theorem num_pos (n : Int) (M : Nat) (w : World) (hn : 0 < n) (hM : -n = -(M : Int)) (hM2 : M ≤ 9223372036854775807) (hlo : -9223372036854775808 ≤ n) (X : ByteArray)
    (hX : ∀ L, 1 ≤ L → M < 10 ^ L → (L = 1 ∨ 10 ^ (L - 1) ≤ M) → X = strOfNums ((List.range L).map fun i => dg M (L - 1 - i))) :
    Calls Try.prog 45 #[.int .i64 n] w fun e w' => e = .returned (.string X) ∧ Since w w' := by
  have HX := Lib.hid hX
  have HM := Lib.hid hM
  have hn9 : n ≤ 9223372036854775807 := by omega
  clear hX hM
  go_enter Try.func45, Try.ntmps45
  go_wp2
  go_loopw [4, 5] (fun a v wr => ∃ (k : Nat) (r : Int), k ≤ 19 ∧ a = .int .i64 (20 - (k : Int)) ∧ v = .int .i64 r ∧ Hid (r = -((M / 10 ^ k : Nat) : Int)) ∧ r ≤ 0 ∧ -9223372036854775808 ≤ r ∧ Hid (k ≤ 1 ∨ 10 ^ (k - 1) ≤ M) ∧
      Hid (wr.rowIs w.heap.size 61 20 (fun j => if 20 ≤ j + k ∧ j < 20 then .int .u8 (dg M (19 - j)) else .int .u8 0)) ∧ Hid (Since w wr)) (fun a _ _ => (intOf a).toNat)
  case atStart =>
    refine ⟨0, -n, by omega, rfl, rfl, Lib.hid (by rw [HM.out, Nat.pow_zero, Nat.div_one]), by omega, by omega, Lib.hid (Or.inl (by omega)), Lib.hid ?_, Lib.hid ((Since.refl w).alloc _)⟩
    refine (World.rowIs_alloc w _ _ (fun _ => .int .u8 0) (fun i hi => by
        match i, hi with
        | 0, _ | 1, _ | 2, _ | 3, _ | 4, _ | 5, _ | 6, _ | 7, _ | 8, _ | 9, _ | 10, _ | 11, _ | 12, _ | 13, _ | 14, _ | 15, _ | 16, _ | 17, _ | 18, _ | 19, _ => rfl
        | n + 20, hi => simp at hi; omega)).congr fun j _ => by rw [if_neg (by omega)]
  case round =>
    obtain ⟨k, r, hk, rfl, rfl, HR0, hr0, hr1, HK, HR, HS⟩ := hrel
    by_cases hgo : r = 0 ∧ 1 ≤ k
    · obtain ⟨hr, hk1⟩ := hgo
      have hlt2 : M < 10 ^ k := by
        have h9 := HR0.out
        rw [hr] at h9
        have h8 : M / 10 ^ k = 0 := by omega
        exact (Nat.div_eq_zero_iff.1 h8).resolve_left (Nat.ne_of_gt (Nat.pow_pos (by decide)))
      have hXX := HX.out k hk1 hlt2 (by rcases HK.out with h | h
                                        · exact Or.inl (by omega)
                                        · exact Or.inr h)
      have hb20 : (20 - (k : Int) == 20) = false := by rw [beq_eq_false_iff_ne]; omega
      have HXX := Lib.hid hXX
      clear hXX hlt2
      subst hr
      have hsl := slice20 k w.heap.size hk1 (by omega)
      have g := run_convert_bytes_arg (P := Try.prog) wr 59 5 Try.underlying59 Try.underlying5 w.heap.size (20 - k) k k ((List.range k).map fun i => dg M (k - 1 - i)) (by simp) (fun i hi => by
        rw [HR.out.cell (by omega), if_pos (by omega), show 19 - (20 - k + i) = k - 1 - i from by omega]; simp [List.getD, hi]) 9 Try.underlying9
      rw [← HXX.out] at g
      go_wp2_with fail
      go_ret
      exact ⟨rfl, HS.out⟩
    · have hr9 : r ≠ 0 ∨ k = 0 := by omega
      have hk18 : k ≤ 18 := by
        rcases hr9 with h | h
        · apply Classical.byContradiction
          intro h7
          have h6 : M / 10 ^ k = 0 := Nat.div_eq_of_lt (Nat.lt_of_le_of_lt hM2 (Nat.lt_of_lt_of_le (show (9223372036854775807 : Nat) < 10 ^ 19 by decide) (Nat.pow_le_pow_right (by decide) (by omega))))
          have h5 := HR0.out
          omega
        · omega
      have hts : r.tmod 10 = -((M / 10 ^ k % 10 : Nat) : Int) := by exact neg_mod _ _ HR0.out
      have htd : r.tdiv 10 = -((M / 10 ^ (k + 1) : Nat) : Int) := by rw [Nat.pow_succ, ← Nat.div_div_eq_div_mul]; exact neg_div _ _ HR0.out
      have hkk : k + 1 ≤ 1 ∨ 10 ^ (k + 1 - 1) ≤ M := by
        rcases hr9 with h | h
        · right
          apply Classical.byContradiction
          intro h7
          have h6 : M / 10 ^ k = 0 := Nat.div_eq_of_lt (by simpa using h7)
          have h5 := HR0.out
          omega
        · left; omega
      have HKK := Lib.hid hkk
      clear hkk
      obtain ⟨t, ht⟩ : ∃ t, t = r.tmod 10 := ⟨_, rfl⟩
      obtain ⟨r', hr'⟩ : ∃ r', r' = r.tdiv 10 := ⟨_, rfl⟩
      have e1 : r.tmod 10 = t := ht.symm
      have e2 : r.tdiv 10 = r' := hr'.symm
      rw [← ht] at hts
      rw [← hr'] at htd
      have ht1 : -9 ≤ t ∧ t ≤ 0 := by rw [hts]; omega
      obtain ⟨ht1, ht2⟩ := ht1
      have hr23 : r' ≤ 0 ∧ -9223372036854775808 ≤ r' := by
        have h4 : M / 10 ^ (k + 1) ≤ M := Nat.div_le_self _ _
        rw [htd]
        generalize M / 10 ^ (k + 1) = Q at h4
        omega
      obtain ⟨hr2, hr3⟩ := hr23
      have HT := Lib.hid hts
      have HTD := Lib.hid htd
      clear hts htd ht hr'
      have hc := HR.out.cell (i := 19 - k) (by omega)
      rw [if_neg (by omega)] at hc
      have hf := HR.out.frozen (19 - k)
      have q1 : (20 - (k : Int) - 1).toNat = 19 - k := by omega
      by_cases hrz : r = 0
      · have hk0 : k = 0 := by omega
        subst hk0
        exfalso
        have h9 := HR0.out
        rw [Nat.pow_zero, Nat.div_one] at h9
        have h8 := HM.out
        omega
      · have hbz : (r != 0) = true := by rw [bne_iff_ne]; exact hrz
        clear hrz
        go_wp2_with fail
        go_roundw
        case rel =>
          refine ⟨k + 1, r', by omega, by first | rfl | go_num | (congr 1; omega), by first | rfl | simp, HTD, hr2, hr3, HKK, Lib.hid ((HR.out.set (19 - k) _).congr fun j hj => ?_), Lib.hid (Below.setCell HS.out (p := ⟨w.heap.size, 19 - k, none⟩) (Nat.le_refl _) _)⟩
          by_cases h9 : j = 19 - k
          · rw [if_pos h9, if_pos (by omega)]
            unfold dg
            rw [show 19 - j = k from by omega]
            congr 1
            have := HT.out
            omega
          · rw [if_neg h9]
            by_cases h8 : 20 ≤ j + k ∧ j < 20
            · rw [if_pos h8, if_pos (by omega)]
            · rw [if_neg h8, if_neg (by omega)]
        case measure => simp [intOf]; omega

set_option maxHeartbeats 2000000 in
theorem num_neg (n : Int) (M : Nat) (w : World) (hn : n < 0) (hM : n = -(M : Int)) (hM2 : M ≤ 9223372036854775808) (hlo : -9223372036854775808 ≤ n) (X : ByteArray)
    (hX : ∀ L, 1 ≤ L → M < 10 ^ L → (L = 1 ∨ 10 ^ (L - 1) ≤ M) → X = strOfNums (45 :: (List.range L).map fun i => dg M (L - 1 - i))) :
    Calls Try.prog 45 #[.int .i64 n] w fun e w' => e = .returned (.string X) ∧ Since w w' := by
  have HX := Lib.hid hX
  have HM := Lib.hid hM
  clear hX hM
  go_enter Try.func45, Try.ntmps45
  go_wp2
  go_loopw [4, 5] (fun a v wr => ∃ (k : Nat) (r : Int), k ≤ 19 ∧ a = .int .i64 (20 - (k : Int)) ∧ v = .int .i64 r ∧ Hid (r = -((M / 10 ^ k : Nat) : Int)) ∧ r ≤ 0 ∧ -9223372036854775808 ≤ r ∧ Hid (k ≤ 1 ∨ 10 ^ (k - 1) ≤ M) ∧
      Hid (wr.rowIs w.heap.size 61 20 (fun j => if 20 ≤ j + k ∧ j < 20 then .int .u8 (dg M (19 - j)) else .int .u8 0)) ∧ Hid (Since w wr)) (fun a _ _ => (intOf a).toNat)
  case atStart =>
    refine ⟨0, n, by omega, rfl, rfl, Lib.hid (by rw [HM.out, Nat.pow_zero, Nat.div_one]), by omega, by omega, Lib.hid (Or.inl (by omega)), Lib.hid ?_, Lib.hid ((Since.refl w).alloc _)⟩
    refine (World.rowIs_alloc w _ _ (fun _ => .int .u8 0) (fun i hi => by
        match i, hi with
        | 0, _ | 1, _ | 2, _ | 3, _ | 4, _ | 5, _ | 6, _ | 7, _ | 8, _ | 9, _ | 10, _ | 11, _ | 12, _ | 13, _ | 14, _ | 15, _ | 16, _ | 17, _ | 18, _ | 19, _ => rfl
        | n + 20, hi => simp at hi; omega)).congr fun j _ => by rw [if_neg (by omega)]
  case round =>
    obtain ⟨k, r, hk, rfl, rfl, HR0, hr0, hr1, HK, HR, HS⟩ := hrel
    by_cases hgo : r = 0 ∧ 1 ≤ k
    · obtain ⟨hr, hk1⟩ := hgo
      have hlt2 : M < 10 ^ k := by
        have h9 := HR0.out
        rw [hr] at h9
        have h8 : M / 10 ^ k = 0 := by omega
        exact (Nat.div_eq_zero_iff.1 h8).resolve_left (Nat.ne_of_gt (Nat.pow_pos (by decide)))
      have hXX := HX.out k hk1 hlt2 (by rcases HK.out with h | h
                                        · exact Or.inl (by omega)
                                        · exact Or.inr h)
      have hb20 : (20 - (k : Int) == 20) = false := by rw [beq_eq_false_iff_ne]; omega
      have HXX := Lib.hid hXX
      clear hXX hlt2
      subst hr
      have hsl : ∀ w' : World, (Instr.sliceAt 61 (.pointer (some ⟨w.heap.size, 0, none⟩)) (some (.int .i64 (20 - (k : Int) - 1))) none none).run Try.prog w' = .ok (.slice (some ⟨w.heap.size, 19 - k, none⟩) (k + 1) (k + 1)) w' := fun w' => by
        have h := slice20 (k + 1) w.heap.size (by omega) (by omega) w'
        rwa [show 20 - ((k + 1 : Nat) : Int) = 20 - (k : Int) - 1 from by omega, show 20 - (k + 1) = 19 - k from by omega] at h
      have hc := HR.out.cell (i := 19 - k) (by omega)
      have hf := HR.out.frozen (19 - k)
      have q1 : (20 - (k : Int) - 1).toNat = 19 - k := by omega
      have R2 := HR.out.set (19 - k) (.int .u8 45)
      have g := run_convert_bytes_arg (P := Try.prog) (wr.setCell ⟨w.heap.size, 19 - k, none⟩ (.int .u8 45)) 59 5 Try.underlying59 Try.underlying5 w.heap.size (19 - k) (k + 1) (k + 1) (45 :: (List.range k).map fun i => dg M (k - 1 - i)) (by simp) (fun i hi => by
        rw [R2.cell (by omega)]
        cases i with
        | zero => rw [if_pos (by omega)]; rfl
        | succ i => rw [if_neg (by omega), if_pos (by omega), show 19 - (19 - k + (i + 1)) = k - 1 - i from by omega]; simp [List.getD, show i < k from by omega]) 9 Try.underlying9
      rw [← HXX.out] at g
      clear R2
      go_wp2_with fail
      go_ret
      exact ⟨rfl, Below.setCell HS.out (p := ⟨w.heap.size, 19 - k, none⟩) (Nat.le_refl _) _⟩
    · have hr9 : r ≠ 0 ∨ k = 0 := by omega
      have hk18 : k ≤ 18 := by
        rcases hr9 with h | h
        · apply Classical.byContradiction
          intro h7
          have h6 : M / 10 ^ k = 0 := Nat.div_eq_of_lt (Nat.lt_of_le_of_lt hM2 (Nat.lt_of_lt_of_le (show (9223372036854775808 : Nat) < 10 ^ 19 by decide) (Nat.pow_le_pow_right (by decide) (by omega))))
          have h5 := HR0.out
          omega
        · omega
      have hts : r.tmod 10 = -((M / 10 ^ k % 10 : Nat) : Int) := by exact neg_mod _ _ HR0.out
      have htd : r.tdiv 10 = -((M / 10 ^ (k + 1) : Nat) : Int) := by rw [Nat.pow_succ, ← Nat.div_div_eq_div_mul]; exact neg_div _ _ HR0.out
      have hkk : k + 1 ≤ 1 ∨ 10 ^ (k + 1 - 1) ≤ M := by
        rcases hr9 with h | h
        · right
          apply Classical.byContradiction
          intro h7
          have h6 : M / 10 ^ k = 0 := Nat.div_eq_of_lt (by simpa using h7)
          have h5 := HR0.out
          omega
        · left; omega
      have HKK := Lib.hid hkk
      clear hkk
      obtain ⟨t, ht⟩ : ∃ t, t = r.tmod 10 := ⟨_, rfl⟩
      obtain ⟨r', hr'⟩ : ∃ r', r' = r.tdiv 10 := ⟨_, rfl⟩
      have e1 : r.tmod 10 = t := ht.symm
      have e2 : r.tdiv 10 = r' := hr'.symm
      rw [← ht] at hts
      rw [← hr'] at htd
      have ht1 : -9 ≤ t ∧ t ≤ 0 := by rw [hts]; omega
      obtain ⟨ht1, ht2⟩ := ht1
      have hr23 : r' ≤ 0 ∧ -9223372036854775808 ≤ r' := by
        have h4 : M / 10 ^ (k + 1) ≤ M := Nat.div_le_self _ _
        rw [htd]
        generalize M / 10 ^ (k + 1) = Q at h4
        omega
      obtain ⟨hr2, hr3⟩ := hr23
      have HT := Lib.hid hts
      have HTD := Lib.hid htd
      clear hts htd ht hr'
      have hc := HR.out.cell (i := 19 - k) (by omega)
      rw [if_neg (by omega)] at hc
      have hf := HR.out.frozen (19 - k)
      have q1 : (20 - (k : Int) - 1).toNat = 19 - k := by omega
      by_cases hrz : r = 0
      · have hk0 : k = 0 := by omega
        subst hk0
        exfalso
        have h9 := HR0.out
        rw [Nat.pow_zero, Nat.div_one] at h9
        have h8 := HM.out
        omega
      · have hbz : (r != 0) = true := by rw [bne_iff_ne]; exact hrz
        clear hrz
        go_wp2_with fail
        go_roundw
        case rel =>
          refine ⟨k + 1, r', by omega, by first | rfl | go_num | (congr 1; omega), by first | rfl | simp, HTD, hr2, hr3, HKK, Lib.hid ((HR.out.set (19 - k) _).congr fun j hj => ?_), Lib.hid (Below.setCell HS.out (p := ⟨w.heap.size, 19 - k, none⟩) (Nat.le_refl _) _)⟩
          by_cases h9 : j = 19 - k
          · rw [if_pos h9, if_pos (by omega)]
            unfold dg
            rw [show 19 - j = k from by omega]
            congr 1
            have := HT.out
            omega
          · rw [if_neg h9]
            by_cases h8 : 20 ≤ j + k ∧ j < 20
            · rw [if_pos h8, if_pos (by omega)]
            · rw [if_neg h8, if_neg (by omega)]
        case measure => simp [intOf]; omega

set_option maxHeartbeats 1000000 in
theorem num_zero (w : World) : Calls Try.prog 45 #[.int .i64 0] w fun e w' => e = .returned (.string ⟨#[48]⟩) ∧ Since w w' := by
  go_enter Try.func45, Try.ntmps45
  go_wp2
  go_loopw [4, 5] (fun a v wr => v = .int .i64 0 ∧ ((a = .int .i64 20 ∧ Hid (wr.rowIs w.heap.size 61 20 (fun _ => .int .u8 0))) ∨ (a = .int .i64 19 ∧ Hid (wr.rowIs w.heap.size 61 20 (fun j => if j = 19 then .int .u8 48 else .int .u8 0)))) ∧ Hid (Since w wr)) (fun a _ _ => (intOf a).toNat)
  case atStart =>
    refine ⟨rfl, Or.inl ⟨rfl, Lib.hid ?_⟩, Lib.hid ((Since.refl w).alloc _)⟩
    exact World.rowIs_alloc w _ _ (fun _ => .int .u8 0) (fun i hi => by
        match i, hi with
        | 0, _ | 1, _ | 2, _ | 3, _ | 4, _ | 5, _ | 6, _ | 7, _ | 8, _ | 9, _ | 10, _ | 11, _ | 12, _ | 13, _ | 14, _ | 15, _ | 16, _ | 17, _ | 18, _ | 19, _ => rfl
        | n + 20, hi => simp at hi; omega)
  case round =>
    obtain ⟨rfl, hcase, HS⟩ := hrel
    rcases hcase with ⟨rfl, HR⟩ | ⟨rfl, HR⟩
    · have hc := HR.out.cell (i := 19) (by omega)
      have hf := HR.out.frozen 19
      go_wp2_with fail
      go_roundw
      case rel => exact ⟨rfl, Or.inr ⟨rfl, Lib.hid (HR.out.set 19 _)⟩, Lib.hid (Below.setCell HS.out (p := ⟨w.heap.size, 19, none⟩) (Nat.le_refl _) _)⟩
      case measure => simp [intOf]
    · have hsl := slice20 1 w.heap.size (by omega) (by omega)
      have g := run_convert_bytes_arg (P := Try.prog) wr 59 5 Try.underlying59 Try.underlying5 w.heap.size 19 1 1 [48] rfl (fun i hi => by
        obtain rfl : i = 0 := by omega
        rw [HR.out.cell (by omega), if_pos (by omega)]; rfl) 9 Try.underlying9
      have hsl' : ∀ w' : World, (Instr.sliceAt 61 (.pointer (some ⟨w.heap.size, 0, none⟩)) (some (.int .i64 19)) none none).run Try.prog w' = .ok (.slice (some ⟨w.heap.size, 19, none⟩) 1 1) w' := fun w' => hsl w'
      clear hsl
      go_wp2_with fail
      go_ret
      exact ⟨rfl, HS.out⟩

end Dig
end Go.Proofs.Ytldipjlepofdgaa
