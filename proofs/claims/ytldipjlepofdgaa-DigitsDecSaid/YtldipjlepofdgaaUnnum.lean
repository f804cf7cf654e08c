/- The walk of digits.Unnum (NOT YET BUILT). -/
import Derived.Test.YtldipjlepofdgaaBase
import Derived.Test.YtldipjlepofdgaaStr
import Derived.Test.YtldipjlepofdgaaDigM
import Derived.Test.YtldipjlepofdgaaDig2
import Derived.Test.YtldipjlepofdgaaNum
import Derived.Test.YtldipjlepofdgaaDigB
import Derived.Test.YtldipjlepofdgaaMemS
namespace Go.Proofs.Ytldipjlepofdgaa
open Go.RowKit
namespace Dig

/-- the text of a number, as the walk of Num has it -/
theorem num_mak (n : Int) (h : -9223372036854775808 ≤ n ∧ n ≤ 9223372036854775807) : Mak 45 #[.int .i64 n] (.string (bs (numS n))) := by
  intro w
  have hd : ∀ L, 1 ≤ L → n.natAbs < 10 ^ L → (L = 1 ∨ 10 ^ (L - 1) ≤ n.natAbs) → digs 20 n.natAbs = (List.range L).map fun i => UInt8.ofNat (dg n.natAbs (L - 1 - i)).toNat := fun L h1 h2 h3 =>
    digs_map 20 L n.natAbs h1 (by
      rcases h3 with h3 | h3
      · omega
      · apply Classical.byContradiction
        intro hne
        have h5 : 10 ^ 20 ≤ 10 ^ (L - 1) := Nat.pow_le_pow_right (by decide) (by omega)
        have h6 : (9223372036854775808 : Nat) < 10 ^ 20 := by decide
        omega) h2 h3
  rcases (show n < 0 ∨ n = 0 ∨ 0 < n by omega) with h0 | h0 | h0
  · refine num_neg n n.natAbs w h0 (by omega) (by omega) (by omega) _ (fun L h1 h2 h3 => ?_)
    unfold numS
    rw [if_pos h0, hd L h1 h2 h3, bs_nums]
    simp
    rfl
  · subst h0
    exact num_zero w
  · refine num_pos n n.natAbs w h0 (by omega) (by omega) (by omega) _ (fun L h1 h2 h3 => ?_)
    unfold numS
    rw [if_neg (by omega), hd L h1 h2 h3, bs_nums]
    simp
    rfl

set_option maxHeartbeats 1000000 in
theorem unnum_long (s : ByteArray) (w : World) (hm : s.size ≤ 140737488355328) (h : 20 < s.size) :
    Calls Try.prog 41 #[.string s] w fun e w' => e = .returned (.tuple #[.int .i64 0, .bool false]) ∧ Since w w' := by
  go_enter Try.func41, Try.ntmps41
  go_wp2
  go_ret2
  exact ⟨rfl, Since.refl w⟩

theorem fold_snoc (l : List UInt8) (c : UInt8) : (l ++ [c]).foldl step 0 = step (l.foldl step 0) c := by rw [List.foldl_append]; rfl
theorem wrap_bounds (a : Int) : -9223372036854775808 ≤ wrap64 a ∧ wrap64 a ≤ 9223372036854775807 := by unfold wrap64; omega
theorem step_bounds (n : Int) (c : UInt8) (h : -9223372036854775808 ≤ n ∧ n ≤ 9223372036854775807) : -9223372036854775808 ≤ step n c ∧ step n c ≤ 9223372036854775807 := by
  unfold step; split
  · exact wrap_bounds _
  · exact h

theorem fold_bounds (l : List UInt8) : ∀ q, -9223372036854775808 ≤ q ∧ q ≤ 9223372036854775807 → -9223372036854775808 ≤ l.foldl step q ∧ l.foldl step q ≤ 9223372036854775807 := by
  induction l with
  | nil => intro q h; exact h
  | cons c l ih => intro q h; exact ih _ (step_bounds q c h)
theorem unV_bounds (l : List UInt8) : -9223372036854775808 ≤ unV l ∧ unV l ≤ 9223372036854775807 := by
  unfold unV
  split
  · exact wrap_bounds _
  · exact fold_bounds l 0 (by omega)
set_option maxHeartbeats 2000000 in
theorem unnum_short (s : ByteArray) (w : World) (hs : s.size ≤ 20) (V0 V : Int) (B : Bool) (h0 : V0 = unV s.data.toList) (hB : B = decide (bs (numS V0) = s)) (hV : V = if bs (numS V0) = s then V0 else 0) :
    Calls Try.prog 41 #[.string s] w fun e w' => e = .returned (.tuple #[.int .i64 V, .bool B]) ∧ Since w w' := by
  have hbd : -9223372036854775808 ≤ V0 ∧ V0 ≤ 9223372036854775807 := by rw [h0]; exact unV_bounds _
  obtain ⟨hbd1, hbd2⟩ := hbd
  have HB := Lib.hid hB
  clear hB
  have HV := Lib.hid hV
  clear hV
  have HV0 := Lib.hid h0
  clear h0
  have H0 := Lib.hid (Since.refl w)
  go_enter Try.func41, Try.ntmps41
  go_wp2
  go_loop [4, 11] (fun n i => ∃ (k : Nat) (q : Int), k ≤ s.size ∧ i = .int .i64 (k : Int) ∧ n = .int .i64 q ∧ Hid (q = (s.data.toList.take k).foldl step 0) ∧ -9223372036854775808 ≤ q ∧ q ≤ 9223372036854775807) (fun _ i => s.size - (intOf i).toNat)
  case atStart => exact ⟨0, 0, Nat.zero_le _, rfl, rfl, Lib.hid rfl, by omega, by omega⟩
  case round =>
    obtain ⟨k, q, hk, rfl, rfl, HQ, hq1, hq2⟩ := hrel
    by_cases hlt : k < s.size
    · have hts : (s.data.toList.take (k + 1)).foldl step 0 = step q s[k] := by rw [take_snoc s k hlt, fold_snoc, HQ.out]
      have hbd := step_bounds q s[k] ⟨hq1, hq2⟩
      have hc := s[k].toNat_lt
      have HS := Lib.hid hts
      have HBD := Lib.hid hbd
      clear hts hbd
      by_cases c1 : 48 ≤ s[k].toNat
      · by_cases c2 : s[k].toNat ≤ 57
        · have hst : step q s[k] = wrap64 (10 * q - ((s[k].toNat : Int) - 48)) := by unfold step; rw [if_pos ⟨c1, c2⟩]
          have HST := Lib.hid hst
          clear hst
          go_wp2_with fail
          go_round
          case rel => exact ⟨k + 1, step q s[k], by omega, by go_num, by rw [HST.out]; first | rfl | (rw [wrap_sub]), Lib.hid HS.out.symm, HBD.out.1, HBD.out.2⟩
          case measure => simp [intOf]; omega
        · have hst : step q s[k] = q := by unfold step; rw [if_neg (fun h => c2 h.2)]
          have HST := Lib.hid hst
          clear hst
          go_wp2_with fail
          go_round
          case rel => exact ⟨k + 1, q, by omega, by go_num, rfl, Lib.hid (by rw [HS.out, HST.out]), hq1, hq2⟩
          case measure => simp [intOf]; omega
      · have hst : step q s[k] = q := by unfold step; rw [if_neg (fun h => c1 h.1)]
        have HST := Lib.hid hst
        clear hst
        go_wp2_with fail
        go_round
        case rel => exact ⟨k + 1, q, by omega, by go_num, rfl, Lib.hid (by rw [HS.out, HST.out]), hq1, hq2⟩
        case measure => simp [intOf]; omega
    · have hqf : q = unF s.data.toList := by rw [HQ.out, List.take_of_length_le (by simp; omega)]; rfl
      have HQF := Lib.hid hqf
      clear hqf
      have h9 : s.size = s.data.toList.length := rfl
      by_cases hz : s.size = 0
      · obtain rfl : s = ⟨#[]⟩ := ba_ext (List.eq_nil_of_length_eq_zero (by omega))
        have hq0 : q = 0 := by rw [HQF.out]; rfl
        have hv0 : V0 = 0 := by rw [HV0.out]; rfl
        subst hq0
        subst hv0
        clear h9
        go_wp2_with fail
        refine (num_mak 0 (by omega)).calls H0.out ?_
        intro w1 hw
        have Hw := Lib.hid hw
        clear hw
        have hE : bs (numS 0) ≠ ⟨#[]⟩ := by decide +kernel
        have hst := some_bytes (bs (numS 0)) (by decide +kernel)
        have hB0 : B = false := by rw [HB.out]; exact decide_eq_false hE
        have hV0 : V = 0 := by rw [HV.out, if_neg hE]
        subst hB0 hV0
        have HE := Lib.hid hE
        clear hE
        go_wp2_with fail
        go_ret2
        exact ⟨rfl, Hw.out⟩
      · have hpos : 0 < s.size := by omega
        have hne := some_bytes s hpos
        clear hz
        have hhead : s.data.toList.head? = some s[0] := by
          rw [List.head?_eq_getElem?, List.getElem?_eq_getElem (show 0 < s.data.toList.length by omega)]; rfl
        have hnil : s.data.toList ≠ [] := fun h => by rw [h, List.length_nil] at h9; omega
        by_cases h45 : s[0].toNat = 45
        · have hb : ((s[0].toNat : Int) != 45) = false := by rw [h45]; rfl
          have hv0 : q = V0 := by
            rw [HV0.out, HQF.out]; unfold unV
            rw [if_neg (fun h => h.2 (by rw [hhead]; exact congrArg some (UInt8.toNat_inj.1 h45)))]
          have Hv0 := Lib.hid hv0
          clear hv0
          have H9 := Lib.hid h9
          clear h9
          have Hhead := Lib.hid hhead
          clear hhead
          have Hnil := Lib.hid hnil
          clear hnil
          have H45 := Lib.hid h45
          clear h45
          go_wp2_with fail
          rw [Hv0.out]
          refine (num_mak V0 (by omega)).calls H0.out ?_
          intro w1 hW
          have HW := Lib.hid hW
          clear hW
          by_cases hE : bs (numS V0) = s
          · have hst := str_eq_f hE
            have hB0 : B = true := by rw [HB.out]; exact decide_eq_true hE
            have hV0 : V = V0 := by rw [HV.out, if_pos hE]
            subst hB0 hV0
            have HE := Lib.hid hE
            clear hE
            go_wp2_with fail
            go_ret2
            exact ⟨rfl, HW.out⟩
          · have hst := str_ne_t hE
            have hB0 : B = false := by rw [HB.out]; exact decide_eq_false hE
            have hV0 : V = 0 := by rw [HV.out, if_neg hE]
            subst hB0 hV0
            have HE := Lib.hid hE
            clear hE
            go_wp2_with fail
            go_ret2
            exact ⟨rfl, HW.out⟩
        · have hb : ((s[0].toNat : Int) != 45) = true := by rw [bne_iff_ne]; omega
          have hv0 : wrap64 (-q) = V0 := by
            rw [HV0.out, HQF.out]; unfold unV
            rw [if_pos ⟨hnil, fun h => h45 (by rw [hhead] at h; rw [Option.some.inj h]; rfl)⟩]
          have H9 := Lib.hid h9
          clear h9
          have Hhead := Lib.hid hhead
          clear hhead
          have Hnil := Lib.hid hnil
          clear hnil
          have H45 := Lib.hid h45
          clear h45
          have Hv0 := Lib.hid hv0
          clear hv0
          go_wp2_with fail
          rw [Hv0.out]
          refine (num_mak V0 (by omega)).calls H0.out ?_
          intro w1 hW
          have HW := Lib.hid hW
          clear hW
          by_cases hE : bs (numS V0) = s
          · have hst := str_eq_f hE
            have hB0 : B = true := by rw [HB.out]; exact decide_eq_true hE
            have hV0 : V = V0 := by rw [HV.out, if_pos hE]
            subst hB0 hV0
            have HE := Lib.hid hE
            clear hE
            go_wp2_with fail
            go_ret2
            exact ⟨rfl, HW.out⟩
          · have hst := str_ne_t hE
            have hB0 : B = false := by rw [HB.out]; exact decide_eq_false hE
            have hV0 : V = 0 := by rw [HV.out, if_neg hE]
            subst hB0 hV0
            have HE := Lib.hid hE
            clear hE
            go_wp2_with fail
            go_ret2
            exact ⟨rfl, HW.out⟩

end Dig
end Go.Proofs.Ytldipjlepofdgaa
