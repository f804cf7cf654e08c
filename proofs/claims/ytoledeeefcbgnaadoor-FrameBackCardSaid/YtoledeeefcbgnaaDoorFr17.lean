/- Joined texts. -/
-- PACK: YtoledeeefcbgnaaDoorUnnum YtoledeeefcbgnaaDoorRefNum YtoledeeefcbgnaaDoorRefNum2
import Derived.Test.YtoledeeefcbgnaaDoorFr2
import Derived.Test.YtoledeeefcbgnaaDoorFr1
import Derived.Test.YtoledeeefcbgnaaDoorFr3
import Derived.Test.YtoledeeefcbgnaaDoorFr13
import Derived.Test.YtoledeeefcbgnaaDoorFr5
import Derived.Test.YtoledeeefcbgnaaDoorFr7

/- The walk of digits.Unnum (NOT YET BUILT). -/
namespace Go.Proofs.YtoledeeefcbgnaaDoor
open Go.RowKit
namespace Dig

/-- the text of a number, as the walk of Num has it -/
theorem num_mak (n : Int) (h : -9223372036854775808 ≤ n ∧ n ≤ 9223372036854775807) : Mak 60 #[.int .i64 n] (.string (bs (numS n))) := by
  intro w
  have hd : ∀ L, 1 ≤ L → n.natAbs < 10 ^ L → (L = 1 ∨ 10 ^ (L - 1) ≤ n.natAbs) → digs 20 n.natAbs = (List.range L).map fun i => UInt8.ofNat (dg n.natAbs (L - 1 - i)).toNat := fun L h1 h2 h3 =>
    digs_map 20 L n.natAbs h1 (by
      rcases h3 with h3 | h3
      · omega
      · apply Classical.byContradiction
        intro hne
        have h5 : 10 ^ 20 ≤ 10 ^ (L - 1) := Nat.pow_le_pow_right (by decide) (by omega)
        have h6 : (9223372036854775808 : Nat) < 10 ^ 20 := by decide
        omega) h2 h3
  rcases (show n < 0 ∨ n = 0 ∨ 0 < n by omega) with h0 | h0 | h0
  · refine num_neg n n.natAbs w h0 (by omega) (by omega) (by omega) _ (fun L h1 h2 h3 => ?_)
    unfold numS
    rw [if_pos h0, hd L h1 h2 h3, bs_nums]
    simp
    rfl
  · subst h0
    exact num_zero w
  · refine num_pos n n.natAbs w h0 (by omega) (by omega) (by omega) _ (fun L h1 h2 h3 => ?_)
    unfold numS
    rw [if_neg (by omega), hd L h1 h2 h3, bs_nums]
    simp
    rfl

set_option maxRecDepth 100000 in
set_option maxHeartbeats 1000000 in
theorem unnum_long (s : ByteArray) (w : World) (hm : s.size ≤ 140737488355328) (h : 20 < s.size) :
    Calls Tryd.prog 90 #[.string s] w fun e w' => e = .returned (.tuple #[.int .i64 0, .bool false]) ∧ Since w w' := by
  go_enter Tryd.func90, Tryd.ntmps90
  go_wp2
  go_ret2
  exact ⟨rfl, Since.refl w⟩

theorem fold_snoc (l : List UInt8) (c : UInt8) : (l ++ [c]).foldl step 0 = step (l.foldl step 0) c := by rw [List.foldl_append]; rfl
theorem wrap_bounds (a : Int) : -9223372036854775808 ≤ wrap64 a ∧ wrap64 a ≤ 9223372036854775807 := by unfold wrap64; omega
theorem step_bounds (n : Int) (c : UInt8) (h : -9223372036854775808 ≤ n ∧ n ≤ 9223372036854775807) : -9223372036854775808 ≤ step n c ∧ step n c ≤ 9223372036854775807 := by
  unfold step; split
  · exact wrap_bounds _
  · exact h

theorem fold_bounds (l : List UInt8) : ∀ q, -9223372036854775808 ≤ q ∧ q ≤ 9223372036854775807 → -9223372036854775808 ≤ l.foldl step q ∧ l.foldl step q ≤ 9223372036854775807 := by
  induction l with
  | nil => intro q h; exact h
  | cons c l ih => intro q h; exact ih _ (step_bounds q c h)
theorem unV_bounds (l : List UInt8) : -9223372036854775808 ≤ unV l ∧ unV l ≤ 9223372036854775807 := by
  unfold unV
  split
  · exact wrap_bounds _
  · exact fold_bounds l 0 (by omega)
set_option maxRecDepth 100000 in
set_option maxHeartbeats 2000000 in
theorem unnum_short (s : ByteArray) (w : World) (hs : s.size ≤ 20) (V0 V : Int) (B : Bool) (h0 : V0 = unV s.data.toList) (hB : B = decide (bs (numS V0) = s)) (hV : V = if bs (numS V0) = s then V0 else 0) :
    Calls Tryd.prog 90 #[.string s] w fun e w' => e = .returned (.tuple #[.int .i64 V, .bool B]) ∧ Since w w' := by
  have hbd : -9223372036854775808 ≤ V0 ∧ V0 ≤ 9223372036854775807 := by rw [h0]; exact unV_bounds _
  obtain ⟨hbd1, hbd2⟩ := hbd
  have HB := Lib.hid hB
  clear hB
  have HV := Lib.hid hV
  clear hV
  have HV0 := Lib.hid h0
  clear h0
  have H0 := Lib.hid (Since.refl w)
  go_enter Tryd.func90, Tryd.ntmps90
  go_wp2
  go_loop [4, 11] (fun n i => ∃ (k : Nat) (q : Int), k ≤ s.size ∧ i = .int .i64 (k : Int) ∧ n = .int .i64 q ∧ Hid (q = (s.data.toList.take k).foldl step 0) ∧ -9223372036854775808 ≤ q ∧ q ≤ 9223372036854775807) (fun _ i => s.size - (intOf i).toNat)
  case atStart => exact ⟨0, 0, Nat.zero_le _, rfl, rfl, Lib.hid rfl, by omega, by omega⟩
  case round =>
    obtain ⟨k, q, hk, rfl, rfl, HQ, hq1, hq2⟩ := hrel
    by_cases hlt : k < s.size
    · have hts : (s.data.toList.take (k + 1)).foldl step 0 = step q s[k] := by rw [take_snoc s k hlt, fold_snoc, HQ.out]
      have hbd := step_bounds q s[k] ⟨hq1, hq2⟩
      have hc := s[k].toNat_lt
      have HS := Lib.hid hts
      have HBD := Lib.hid hbd
      clear hts hbd
      by_cases c1 : 48 ≤ s[k].toNat
      · by_cases c2 : s[k].toNat ≤ 57
        · have hst : step q s[k] = wrap64 (10 * q - ((s[k].toNat : Int) - 48)) := by unfold step; rw [if_pos ⟨c1, c2⟩]
          have HST := Lib.hid hst
          clear hst
          go_wp2_with fail
          go_round
          case rel => exact ⟨k + 1, step q s[k], by omega, by go_num, by rw [HST.out]; first | rfl | (rw [wrap_sub]), Lib.hid HS.out.symm, HBD.out.1, HBD.out.2⟩
          case measure => simp [intOf]; omega
        · have hst : step q s[k] = q := by unfold step; rw [if_neg (fun h => c2 h.2)]
          have HST := Lib.hid hst
          clear hst
          go_wp2_with fail
          go_round
          case rel => exact ⟨k + 1, q, by omega, by go_num, rfl, Lib.hid (by rw [HS.out, HST.out]), hq1, hq2⟩
          case measure => simp [intOf]; omega
      · have hst : step q s[k] = q := by unfold step; rw [if_neg (fun h => c1 h.1)]
        have HST := Lib.hid hst
        clear hst
        go_wp2_with fail
        go_round
        case rel => exact ⟨k + 1, q, by omega, by go_num, rfl, Lib.hid (by rw [HS.out, HST.out]), hq1, hq2⟩
        case measure => simp [intOf]; omega
    · have hqf : q = unF s.data.toList := by rw [HQ.out, List.take_of_length_le (by simp; omega)]; rfl
      have HQF := Lib.hid hqf
      clear hqf
      have h9 : s.size = s.data.toList.length := rfl
      by_cases hz : s.size = 0
      · obtain rfl : s = ⟨#[]⟩ := ba_ext (List.eq_nil_of_length_eq_zero (by omega))
        have hq0 : q = 0 := by rw [HQF.out]; rfl
        have hv0 : V0 = 0 := by rw [HV0.out]; rfl
        subst hq0
        subst hv0
        clear h9
        go_wp2_with fail
        refine (num_mak 0 (by omega)).calls H0.out ?_
        intro w1 hw
        have Hw := Lib.hid hw
        clear hw
        have hE : bs (numS 0) ≠ ⟨#[]⟩ := by decide +kernel
        have hst := some_bytes (bs (numS 0)) (by decide +kernel)
        have hB0 : B = false := by rw [HB.out]; exact decide_eq_false hE
        have hV0 : V = 0 := by rw [HV.out, if_neg hE]
        subst hB0 hV0
        have HE := Lib.hid hE
        clear hE
        go_wp2_with fail
        go_ret2
        exact ⟨rfl, Hw.out⟩
      · have hpos : 0 < s.size := by omega
        have hne := some_bytes s hpos
        clear hz
        have hhead : s.data.toList.head? = some s[0] := by
          rw [List.head?_eq_getElem?, List.getElem?_eq_getElem (show 0 < s.data.toList.length by omega)]; rfl
        have hnil : s.data.toList ≠ [] := fun h => by rw [h, List.length_nil] at h9; omega
        by_cases h45 : s[0].toNat = 45
        · have hb : ((s[0].toNat : Int) != 45) = false := by rw [h45]; rfl
          have hv0 : q = V0 := by
            rw [HV0.out, HQF.out]; unfold unV
            rw [if_neg (fun h => h.2 (by rw [hhead]; exact congrArg some (UInt8.toNat_inj.1 h45)))]
          have Hv0 := Lib.hid hv0
          clear hv0
          have H9 := Lib.hid h9
          clear h9
          have Hhead := Lib.hid hhead
          clear hhead
          have Hnil := Lib.hid hnil
          clear hnil
          have H45 := Lib.hid h45
          clear h45
          go_wp2_with fail
          rw [Hv0.out]
          refine (num_mak V0 (by omega)).calls H0.out ?_
          intro w1 hW
          have HW := Lib.hid hW
          clear hW
          by_cases hE : bs (numS V0) = s
          · have hst := str_eq_f hE
            have hB0 : B = true := by rw [HB.out]; exact decide_eq_true hE
            have hV0 : V = V0 := by rw [HV.out, if_pos hE]
            subst hB0 hV0
            have HE := Lib.hid hE
            clear hE
            go_wp2_with fail
            go_ret2
            exact ⟨rfl, HW.out⟩
          · have hst := str_ne_t hE
            have hB0 : B = false := by rw [HB.out]; exact decide_eq_false hE
            have hV0 : V = 0 := by rw [HV.out, if_neg hE]
            subst hB0 hV0
            have HE := Lib.hid hE
            clear hE
            go_wp2_with fail
            go_ret2
            exact ⟨rfl, HW.out⟩
        · have hb : ((s[0].toNat : Int) != 45) = true := by rw [bne_iff_ne]; omega
          have hv0 : wrap64 (-q) = V0 := by
            rw [HV0.out, HQF.out]; unfold unV
            rw [if_pos ⟨hnil, fun h => h45 (by rw [hhead] at h; rw [Option.some.inj h]; rfl)⟩]
          have H9 := Lib.hid h9
          clear h9
          have Hhead := Lib.hid hhead
          clear hhead
          have Hnil := Lib.hid hnil
          clear hnil
          have H45 := Lib.hid h45
          clear h45
          have Hv0 := Lib.hid hv0
          clear hv0
          go_wp2_with fail
          rw [Hv0.out]
          refine (num_mak V0 (by omega)).calls H0.out ?_
          intro w1 hW
          have HW := Lib.hid hW
          clear hW
          by_cases hE : bs (numS V0) = s
          · have hst := str_eq_f hE
            have hB0 : B = true := by rw [HB.out]; exact decide_eq_true hE
            have hV0 : V = V0 := by rw [HV.out, if_pos hE]
            subst hB0 hV0
            have HE := Lib.hid hE
            clear hE
            go_wp2_with fail
            go_ret2
            exact ⟨rfl, HW.out⟩
          · have hst := str_ne_t hE
            have hB0 : B = false := by rw [HB.out]; exact decide_eq_false hE
            have hV0 : V = 0 := by rw [HV.out, if_neg hE]
            subst hB0 hV0
            have HE := Lib.hid hE
            clear hE
            go_wp2_with fail
            go_ret2
            exact ⟨rfl, HW.out⟩

end Dig
end Go.Proofs.YtoledeeefcbgnaaDoor

/- The reference's decimal texts: plain, Num, Dec, Undec, Unnum. -/
namespace Go.Proofs.YtoledeeefcbgnaaDoor
open Go.RowKit
namespace RefDig
open Dig

theorem digs_spec (f : Nat) : ∀ M : Nat, 1 ≤ f → M < 10 ^ f → 1 ≤ (digs f M).length ∧ (digs f M).length ≤ f ∧ M < 10 ^ (digs f M).length ∧ ((digs f M).length = 1 ∨ 10 ^ ((digs f M).length - 1) ≤ M) := by
  induction f with
  | zero => intro M h; omega
  | succ f ih =>
    intro M _ h2
    unfold digs
    by_cases hM : M < 10
    · rw [if_pos hM]; simp; omega
    · rw [if_neg hM]
      have hf : 1 ≤ f := by
        apply Classical.byContradiction
        intro h
        have : f = 0 := by omega
        subst this
        simp at h2
        omega
      obtain ⟨a, b, c, d⟩ := ih (M / 10) hf (by rw [Nat.pow_succ] at h2; omega)
      rw [List.length_append]
      obtain ⟨L, hL⟩ : ∃ L, L = (digs f (M / 10)).length := ⟨_, rfl⟩
      rw [← hL] at a b c d ⊢
      simp only [List.length_cons, List.length_nil, Nat.zero_add, Nat.add_sub_cancel]
      refine ⟨by omega, by omega, by rw [Nat.pow_succ]; omega, Or.inr ?_⟩
      rcases d with d | d
      · rw [d]; omega
      · obtain ⟨K, rfl⟩ : ∃ K, L = K + 1 := ⟨L - 1, by omega⟩
        rw [Nat.add_sub_cancel] at d
        rw [Nat.pow_succ]
        omega
theorem digs_eq (M L : Nat) (h1 : 1 ≤ L) (h2 : M < 10 ^ L) (h3 : L = 1 ∨ 10 ^ (L - 1) ≤ M) (hM : M ≤ 9223372036854775808) : digs 20 M = (List.range L).map fun i => UInt8.ofNat (dg M (L - 1 - i)).toNat :=
  digs_map 20 L M h1 (by
    rcases h3 with h3 | h3
    · omega
    · apply Classical.byContradiction
      intro hne
      have h5 : 10 ^ 20 ≤ 10 ^ (L - 1) := Nat.pow_le_pow_right (by decide) (by omega)
      have h6 : (9223372036854775808 : Nat) < 10 ^ 20 := by decide
      omega) h2 h3
theorem digs_fuel (f : Nat) : ∀ M : Nat, M < 10 ^ f → 1 ≤ f → digs f M = digs (f + 1) M := by
  induction f with
  | zero => intro M _ h; omega
  | succ f ih =>
    intro M h2 _
    show (if M < 10 then [UInt8.ofNat (48 + M)] else digs f (M / 10) ++ [UInt8.ofNat (48 + M % 10)]) = (if M < 10 then [UInt8.ofNat (48 + M)] else digs (f + 1) (M / 10) ++ [UInt8.ofNat (48 + M % 10)])
    by_cases hM : M < 10
    · rw [if_pos hM, if_pos hM]
    · rw [if_neg hM, if_neg hM, ih (M / 10) (by rw [Nat.pow_succ] at h2; omega) (by
        apply Classical.byContradiction
        intro h
        have : f = 0 := by omega
        subst this
        simp at h2
        omega)]
theorem digs_ten (M : Nat) (h : 10 ≤ M) (hM : M ≤ 9223372036854775808) : digs 20 M = digs 20 (M / 10) ++ digs 20 (M % 10) := by
  have h1 : digs 20 M = digs 19 (M / 10) ++ [UInt8.ofNat (48 + M % 10)] := by
    show (if M < 10 then [UInt8.ofNat (48 + M)] else digs 19 (M / 10) ++ [UInt8.ofNat (48 + M % 10)]) = _
    rw [if_neg (by omega)]
  have h2 : digs 20 (M % 10) = [UInt8.ofNat (48 + M % 10)] := by
    show (if M % 10 < 10 then [UInt8.ofNat (48 + M % 10)] else _) = _
    rw [if_pos (by omega)]
  rw [h1, h2, digs_fuel 19 (M / 10) (Nat.lt_of_le_of_lt (show M / 10 ≤ 922337203685477580 by omega) (by decide)) (by decide)]

/-- k digits of a number, from the right -/
def lowD (M k : Nat) : List UInt8 := (List.range k).map fun i => UInt8.ofNat (dg M (k - 1 - i)).toNat
theorem lowD_len (M k : Nat) : (lowD M k).length = k := by simp [lowD]
theorem lowD_succ (M k : Nat) : lowD M (k + 1) = UInt8.ofNat (48 + M / 10 ^ k % 10) :: lowD M k := by
  unfold lowD
  rw [List.range_succ_eq_map, List.map_cons, List.map_map]
  have h1 : (dg M (k + 1 - 1 - 0)).toNat = 48 + M / 10 ^ k % 10 := by unfold dg; rw [show k + 1 - 1 - 0 = k from by omega]; omega
  rw [h1]
  congr 1
  apply List.map_congr_left
  intro i _
  show UInt8.ofNat (dg M (k + 1 - 1 - (i + 1))).toNat = _
  rw [show k + 1 - 1 - (i + 1) = k - 1 - i from by omega]
theorem sign_dec (d : Nat) (h : d < 10) : sign d = UInt8.ofNat (48 + d) := by
  rcases (show d = 0 ∨ d = 1 ∨ d = 2 ∨ d = 3 ∨ d = 4 ∨ d = 5 ∨ d = 6 ∨ d = 7 ∨ d = 8 ∨ d = 9 by omega) with rfl | rfl | rfl | rfl | rfl | rfl | rfl | rfl | rfl | rfl <;> rfl

set_option maxRecDepth 100000 in
set_option maxHeartbeats 1000000 in
theorem plain_any (M : Nat) (hM : M ≤ 9223372036854775807) (X : ByteArray) (hX : X = bs (digs 20 M)) : Mak 100 #[.int .i64 (M : Int)] (.string X) := by
  intro w
  have HX := Lib.hid hX
  clear hX
  have H0 := Lib.hid (Since.refl w)
  go_enter Tryd.func100, Tryd.ntmps100
  go_wp2
  go_loopw [0, 3] (fun v s wr => ∃ (k q : Nat) (S : ByteArray), v = .int .i64 (q : Int) ∧ q ≤ 9223372036854775807 ∧ k ≤ 20 ∧ Hid (q = M / 10 ^ k) ∧ (k = 0 → q = M) ∧ s = .string S ∧ S.size ≤ k ∧ k ≤ S.size ∧ Hid (S = bs (lowD M k)) ∧ Hid (k ≤ 1 ∨ 10 ^ (k - 1) ≤ M) ∧ Hid (Since w wr)) (fun v s _ => match v, s with | .int _ q, .string S => q.toNat * 2 + (1 - S.size) | _, _ => 0)
  case atStart => exact ⟨0, M, ⟨#[]⟩, rfl, hM, by omega, Lib.hid (by simp), fun _ => rfl, rfl, Nat.le_refl _, Nat.le_refl _, Lib.hid rfl, Lib.hid (Or.inl (by omega)), H0⟩
  case round =>
    obtain ⟨k, q, S, rfl, hq, hk, HQ, hq0, rfl, hs1, hs2, HS, HK, HW⟩ := hrel
    by_cases hgo : 0 < q ∨ k = 0
    · have hk19 : k ≤ 19 := by
        rcases hgo with h | h
        · apply Classical.byContradiction
          intro h7
          have h6 : M / 10 ^ k = 0 := Nat.div_eq_of_lt (Nat.lt_of_le_of_lt hM (Nat.lt_of_lt_of_le (show (9223372036854775807 : Nat) < 10 ^ 19 by decide) (Nat.pow_le_pow_right (by decide) (by omega))))
          have h5 := HQ.out
          omega
        · omega
      have hkk : k + 1 ≤ 1 ∨ 10 ^ (k + 1 - 1) ≤ M := by
        rcases hgo with h | h
        · right
          apply Classical.byContradiction
          intro h7
          have h6 : M / 10 ^ k = 0 := Nat.div_eq_of_lt (by simpa using h7)
          have h5 := HQ.out
          omega
        · left; omega
      have hnext : q / 10 = M / 10 ^ (k + 1) := by rw [HQ.out, Nat.div_div_eq_div_mul, Nat.pow_succ]
      obtain ⟨d, hd⟩ : ∃ d, q % 10 = d := ⟨_, rfl⟩
      have hd2 : d < 10 := by omega
      have qd : (q : Int) % 10 = (d : Int) := by omega
      have hcut := sign_cut d (by omega)
      have hlow : bs [sign d] ++ S = bs (lowD M (k + 1)) := by
        apply ba_ext
        rw [app_list, list_bs, HS.out, list_bs, list_bs, lowD_succ, ← HQ.out, hd, sign_dec d hd2]; rfl
      have hsz : ¬ 9223372036854775807 < (bs [sign d]).size + S.size := by rw [size_bs]; simp; omega
      have hlen : (bs [sign d] ++ S).size = S.size + 1 := by
        rw [hlow, HS.out, size_bs, size_bs, lowD_len, lowD_len]
      have e1 : IntKind.i64.wrap ((d : Int) + 1) = (d : Int) + 1 := IntWalk.i64_in _ (by omega)
      have n1 : ((d : Int) + 1).toNat = d + 1 := by omega
      have Hkk := Lib.hid hkk
      clear hkk
      have Hnext := Lib.hid hnext
      clear hnext
      have Hlow := Lib.hid hlow
      clear hlow
      have Hlen := Lib.hid hlen
      clear hlen
      clear hd
      by_cases h0 : 0 < q
      · clear hgo hq0
        go_wp2_with fail
        try go_quiet (fail)
        go_wp2_with fail
        go_roundw
        case rel => exact ⟨k + 1, q / 10, _, by go_num, by omega, by omega, Hnext, fun h => by omega, rfl, by rw [Hlen.out]; omega, by rw [Hlen.out]; omega, Hlow, Hkk, HW⟩
        case measure => simp; have := Hlen.out; omega
      · have hq00 : q = 0 := by omega
        have hk0 : k = 0 := by omega
        subst hq00
        subst hk0
        obtain rfl : S = ⟨#[]⟩ := ba_ext (List.eq_nil_of_length_eq_zero (by have h8 : S.size = S.data.toList.length := rfl; omega))
        have hM0 : M = 0 := (hq0 rfl).symm
        subst hM0
        clear hgo hq0
        go_wp2_with fail
        try go_quiet (fail)
        go_wp2_with fail
        go_roundw
        case rel => exact ⟨1, 0, _, rfl, by omega, by omega, Lib.hid rfl, fun h => by omega, rfl, by decide, by decide, Lib.hid (by decide), Lib.hid (Or.inl (by omega)), HW⟩
        case measure => decide
    · have hq00 : q = 0 := by omega
      have hk1 : 1 ≤ k := by omega
      subst hq00
      have hlt2 : M < 10 ^ k := by
        have h9 := HQ.out
        exact (Nat.div_eq_zero_iff.1 h9.symm).resolve_left (Nat.ne_of_gt (Nat.pow_pos (by decide)))
      have hX2 : X = S := by
        rw [HX.out, HS.out, digs_eq M k hk1 hlt2 (by rcases HK.out with h | h <;> omega) (by omega)]; rfl
      subst hX2
      have hne := some_bytes X (by omega)
      have hne2 := some_bytes_f X (by omega)
      clear hgo hq0 hlt2
      go_wp2_with fail
      go_ret
      exact ⟨rfl, HW.out⟩


theorem wrap_neg (q : Nat) (_h : q ≤ 9223372036854775808) (_h2 : 1 ≤ q) : -((q : Int)) = -(q : Int) := rfl

set_option maxRecDepth 100000 in
set_option maxHeartbeats 1000000 in
theorem num_any (n : Int) (h : -9223372036854775808 ≤ n ∧ n ≤ 9223372036854775807) (X : ByteArray) (hX : X = bs (numS n)) : Mak 64 #[.int .i64 n] (.string X) := by
  obtain ⟨h1, h2⟩ := h
  by_cases hn : 0 ≤ n
  · obtain ⟨M, rfl⟩ := Int.eq_ofNat_of_zero_le hn
    have hp := plain_any M (by omega) X (by rw [hX]; unfold numS; rw [if_neg (by omega)]; rfl)
    intro w
    have H0 := Lib.hid (Since.refl w)
    clear hX
    go_enter Tryd.func64, Tryd.ntmps64
    go_wp2_with fail
    refine (hp).calls H0.out ?_
    intro w1 h1
    have H1 := Lib.hid h1
    clear h1
    go_wp2_with fail
    go_ret
    exact ⟨rfl, H1.out⟩
  · obtain ⟨M, hM⟩ : ∃ M : Nat, n = -(M : Int) := ⟨n.natAbs, by omega⟩
    have hM1 : 1 ≤ M := by omega
    have hM2 : M ≤ 9223372036854775808 := by omega
    have hnat : n.natAbs = M := by omega
    have hXX : X = bs (45 :: digs 20 M) := by rw [hX]; unfold numS; rw [if_pos (by omega), hnat]
    have hlast := plain_any (M % 10) (by omega) _ rfl
    have hrest := plain_any (M / 10) (by omega) _ rfl
    have e1 : n.tmod 10 = -((M % 10 : Nat) : Int) := neg_mod n M hM
    have e2 : n.tdiv 10 = -((M / 10 : Nat) : Int) := neg_div n M hM
    have hdg : ¬ M < 10 → digs 20 M = digs 20 (M / 10) ++ digs 20 (M % 10) := fun h => digs_ten M (by omega) hM2
    have hlt : M < 10 → digs 20 (M % 10) = digs 20 M := fun h => by rw [Nat.mod_eq_of_lt h]
    have hdv : M < 10 → M / 10 = 0 := fun h => by omega
    have hdv2 : ¬ M < 10 → 1 ≤ M / 10 := fun h => by omega
    have l1 : (digs 20 (M / 10)).length ≤ 20 := (digs_spec 20 (M / 10) (by decide) (Nat.lt_of_le_of_lt (show M / 10 ≤ 922337203685477580 by omega) (by decide))).2.1
    have l2 : (digs 20 (M % 10)).length ≤ 20 := (digs_spec 20 (M % 10) (by decide) (Nat.lt_of_le_of_lt (show M % 10 ≤ 9 by omega) (by decide))).2.1
    have b1 : M % 10 ≤ 9 := by omega
    have b2 : M / 10 ≤ 922337203685477580 := by omega
    generalize M % 10 = a at *
    generalize M / 10 = b at *
    intro w
    have H0 := Lib.hid (Since.refl w)
    have HM := Lib.hid hM
    clear hM
    have Hnat := Lib.hid hnat
    clear hnat
    have Hdg := Lib.hid hdg
    clear hdg
    have Hlt := Lib.hid hlt
    clear hlt
    have HX := Lib.hid hX
    clear hX
    have HXX := Lib.hid hXX
    clear hXX
    by_cases h10 : M < 10
    · have hb0 : b = 0 := hdv h10
      subst hb0
      have e3 : n.tdiv 10 = 0 := by rw [e2]; rfl
      clear e2 hdv hdv2
      have hsz : ¬ 9223372036854775807 < (⟨#[45]⟩ : ByteArray).size + (bs (digs 20 a)).size := by
        have h9 : (⟨#[45]⟩ : ByteArray).size = 1 := rfl
        rw [h9, size_bs]; omega
      go_enter Tryd.func64, Tryd.ntmps64
      go_wp2_with fail
      refine (hlast).calls H0.out ?_
      intro w1 h1
      have H1 := Lib.hid h1
      clear h1
      go_wp2_with fail
      go_ret
      refine ⟨?_, H1.out⟩
      rw [HXX.out, ← Hlt.out h10]
      rfl
    · have hb0 := hdv2 h10
      have e4 : ((b : Int) == 0) = false := by rw [beq_eq_false_iff_ne]; omega
      have hsz : ¬ 9223372036854775807 < (⟨#[45]⟩ : ByteArray).size + (bs (digs 20 b)).size := by
        have h9 : (⟨#[45]⟩ : ByteArray).size = 1 := rfl
        rw [h9, size_bs]; omega
      have hsz2 : ¬ 9223372036854775807 < (⟨#[45]⟩ ++ bs (digs 20 b)).size + (bs (digs 20 a)).size := by
        have h9 : (⟨#[45]⟩ ++ bs (digs 20 b)).size = (⟨#[45]⟩ ++ bs (digs 20 b)).data.toList.length := rfl
        rw [h9, app_list, List.length_append, list_bs, size_bs]
        have h8 : (⟨#[45]⟩ : ByteArray).data.toList.length = 1 := rfl
        omega
      clear hdv hdv2
      go_enter Tryd.func64, Tryd.ntmps64
      go_wp2_with fail
      refine (hrest).calls H0.out ?_
      intro w1 h1
      have H1 := Lib.hid h1
      clear h1
      go_wp2_with fail
      refine (hlast).calls H1.out ?_
      intro w2 h2
      have H2 := Lib.hid h2
      clear h2
      go_wp2_with fail
      go_ret
      refine ⟨?_, H2.out⟩
      rw [HXX.out, Hdg.out h10]
      exact congrArg (fun x => Ending.returned (.string x)) (ba_ext (by rw [app_list, app_list, list_bs, list_bs, list_bs]; rfl))

theorem numD_digs (f : Nat) : ∀ M : Nat, M < 10 ^ f → numD (digs f M) = M ∧ (digs f M).all isD = true := by
  induction f with
  | zero => intro M h; simp at h; subst h; exact ⟨rfl, rfl⟩
  | succ f ih =>
    intro M h
    unfold digs
    have hb : ∀ d : Nat, d < 10 → (UInt8.ofNat (48 + d)).toNat = 48 + d := fun d hd => by rw [UInt8.toNat_ofNat']; omega
    have hi : ∀ d : Nat, d < 10 → isD (UInt8.ofNat (48 + d)) = true := fun d hd => by unfold isD; rw [hb d hd]; simp; omega
    by_cases hM : M < 10
    · rw [if_pos hM]
      refine ⟨?_, by rw [List.all_cons, hi M hM]; rfl⟩
      show 10 * 0 + ((UInt8.ofNat (48 + M)).toNat - 48) = M
      rw [hb M hM]; omega
    · rw [if_neg hM]
      obtain ⟨h1, h2⟩ := ih (M / 10) (by rw [Nat.pow_succ] at h; omega)
      refine ⟨?_, by rw [List.all_append, h2, List.all_cons, hi (M % 10) (by omega)]; rfl⟩
      rw [numD_snoc, h1, hb (M % 10) (by omega)]; omega
theorem fold_ge (m : List UInt8) : ∀ n : Nat, n ≤ m.foldl (fun n c => 10 * n + (c.toNat - 48)) n := by
  induction m with
  | nil => intro n; exact Nat.le_refl _
  | cons c m ih => intro n; exact Nat.le_trans (by omega) (ih (10 * n + (c.toNat - 48)))
theorem numD_app (l m : List UInt8) : numD l ≤ numD (l ++ m) := by
  unfold numD
  rw [List.foldl_append]
  exact fold_ge m _
theorem numD_take (l : List UInt8) (k : Nat) : numD (l.take k) ≤ numD l := by
  have h := numD_app (l.take k) (l.drop k)
  rwa [List.take_append_drop] at h

/-- a text of digits whose number's text it is -/
theorem pos_true (l : List UInt8) (hh : l.head? ≠ some 45) (h : numS (unV l) = l) : l.all isD = true ∧ (numD l : Int) = unV l := by
  have hb := unV_bounds l
  have hlt : (unV l).natAbs < 10 ^ 20 := Nat.lt_of_le_of_lt (show (unV l).natAbs ≤ 9223372036854775808 by omega) (by decide)
  obtain ⟨h1, h2⟩ := numD_digs 20 _ hlt
  by_cases hn : unV l < 0
  · exfalso
    unfold numS at h
    rw [if_pos hn] at h
    exact hh (by rw [← h]; rfl)
  · unfold numS at h
    rw [if_neg hn] at h
    rw [h] at h1 h2
    exact ⟨h2, by rw [h1]; omega⟩
theorem neg_true (l m : List UInt8) (hl : l = 45 :: m) (h : numS (unV l) = l) : m.all isD = true ∧ -(numD m : Int) = unV l := by
  have hb := unV_bounds l
  have hlt : (unV l).natAbs < 10 ^ 20 := Nat.lt_of_le_of_lt (show (unV l).natAbs ≤ 9223372036854775808 by omega) (by decide)
  obtain ⟨h1, h2⟩ := numD_digs 20 _ hlt
  by_cases hn : unV l < 0
  · unfold numS at h
    rw [if_pos hn] at h
    have h3 : digs 20 (unV l).natAbs = m := by rw [hl] at h ⊢; exact List.tail_eq_of_cons_eq h
    rw [h3] at h1 h2
    exact ⟨h2, by rw [h1]; omega⟩
  · exfalso
    unfold numS at h
    rw [if_neg hn] at h
    have h4 := (digs_head 20 (unV l).natAbs (by decide)).2
    rw [h, hl] at h4
    exact h4 rfl

end RefDig
end Go.Proofs.YtoledeeefcbgnaaDoor

/- The reference's Undec, Dec, Unnum. -/
namespace Go.Proofs.YtoledeeefcbgnaaDoor
open Go.RowKit
namespace RefDig
open Dig

theorem val_dig (c : Nat) (h : 48 ≤ c ∧ c ≤ 57) : val c = (c : Int) - 48 := by unfold val; rw [if_pos h]
theorem val_not (c : Nat) (h : ¬ (48 ≤ c ∧ c ≤ 57)) : val c < 0 ∨ 9 < val c := by unfold val; rw [if_neg h]; split <;> omega

theorem dec_same (n W : Nat) (hn : n ≤ 9223372036854775807) (h : (digs 20 n).length ≤ W) : bs (List.replicate (W - (digs 20 n).length) 48 ++ digs 20 n) = strOfNums ((List.range W).map fun i => dg n (W - 1 - i)) := by
  obtain ⟨a, b, c, d⟩ := digs_spec 20 n (by decide) (Nat.lt_of_le_of_lt hn (by decide))
  have he := digs_eq n _ a c d (by omega)
  obtain ⟨L, hL⟩ : ∃ L, L = (digs 20 n).length := ⟨_, rfl⟩
  rw [← hL] at a b c d he h ⊢
  apply ba_ext
  rw [list_bs, nums_list, List.map_map, he]
  apply List.ext_getElem?
  intro i
  by_cases hi : i < W - L
  · rw [List.getElem?_append_left (by simpa using hi)]
    have h1 : n / 10 ^ (W - 1 - i) = 0 := Nat.div_eq_of_lt (Nat.lt_of_lt_of_le c (Nat.pow_le_pow_right (by decide) (by omega)))
    have h2 : dg n (W - 1 - i) = 48 := by unfold dg; rw [h1]; rfl
    simp [hi, show i < W by omega, h2]
  · rw [List.getElem?_append_right (by simp; omega)]
    by_cases hw : i < W
    · simp [show i - (W - L) < L by omega, hw]
      rw [show L - 1 - (i - (W - L)) = W - 1 - i by omega]
    · rw [List.getElem?_eq_none (by simp; omega), List.getElem?_eq_none (by simp; omega)]

theorem dec_iff (n W : Nat) (hn : n ≤ 9223372036854775807) (hW : 1 ≤ W) : n < 10 ^ W ↔ (digs 20 n).length ≤ W := by
  obtain ⟨a, b, c, d⟩ := digs_spec 20 n (by decide) (Nat.lt_of_le_of_lt hn (by decide))
  constructor
  · intro h
    apply Classical.byContradiction
    intro h2
    rcases d with d | d
    · omega
    · have h3 : 10 ^ W ≤ 10 ^ ((digs 20 n).length - 1) := Nat.pow_le_pow_right (by decide) (by omega)
      omega
  · intro h
    exact Nat.lt_of_lt_of_le c (Nat.pow_le_pow_right (by decide) h)

set_option maxRecDepth 100000 in
set_option maxHeartbeats 400000 in
theorem unnum_out (s : ByteArray) (h : s.size < 1 ∨ 20 < s.size) (hm : s.size ≤ 140737488355328) : Ret 51 #[.string s] (.tuple #[.int .i64 0, .bool false]) := by
  intro w
  rcases h with h | h
  · go_enter Tryd.func51, Tryd.ntmps51
    go_wp2
    go_ret2
    exact ⟨rfl, rfl⟩
  · have h' : ¬ s.size < 1 := by omega
    go_enter Tryd.func51, Tryd.ntmps51
    go_wp2
    go_ret2
    exact ⟨rfl, rfl⟩

set_option maxRecDepth 100000 in
set_option maxHeartbeats 2000000 in
theorem unnum_pos (s : ByteArray) (h1 : 1 ≤ s.size) (hs : s.size ≤ 20) (h45 : s[0].toNat ≠ 45) (V0 V : Int) (B : Bool) (h0 : V0 = unV s.data.toList) (hB : B = decide (bs (numS V0) = s)) (hV : V = if B = true then V0 else 0) :
    Mak 51 #[.string s] (.tuple #[.int .i64 V, .bool B]) := by
  intro w
  have hbd := unV_bounds s.data.toList
  rw [← h0] at hbd
  have h9 : s.size = s.data.toList.length := rfl
  have hhead : s.data.toList.head? ≠ some 45 := by
    rw [List.head?_eq_getElem?, List.getElem?_eq_getElem (show 0 < s.data.toList.length by omega)]
    intro h
    have h2 : s[0] = 45 := Option.some.inj h
    exact h45 (by rw [h2]; rfl)
  have hp : B = true → s.data.toList.all isD = true ∧ (numD s.data.toList : Int) = V0 := fun h => by
    rw [h] at hB
    have h2 := of_decide_eq_true hB.symm
    rw [h0] at h2
    have h3 := pos_true s.data.toList hhead (by rw [← list_bs (numS _), h2])
    rwa [← h0] at h3
  have hb45 : ((s[0].toNat : Int) == 45) = false := by rw [beq_eq_false_iff_ne]; omega
  have HP := Lib.hid hp
  have HV0 := Lib.hid h0
  have HBD := Lib.hid hbd
  have H0 := Lib.hid (Since.refl w)
  have HB := Lib.hid hB
  clear hB
  have HV := Lib.hid hV
  clear hV
  clear hp h0 hbd hhead h9 h45
  go_enter Tryd.func51, Tryd.ntmps51
  go_wp2
  go_loop [6, 7] (fun n i => ∃ k q : Nat, k ≤ s.size ∧ i = .int .i64 k ∧ n = .int .i64 (q : Int) ∧ q ≤ 9223372036854775807 ∧ Hid ((s.data.toList.take k).all isD = true) ∧ Hid (q = numD (s.data.toList.take k))) (fun _ i => s.size - (intOf i).toNat)
  case atStart => exact ⟨0, 0, Nat.zero_le _, rfl, rfl, by omega, Lib.hid rfl, Lib.hid rfl⟩
  case round =>
    obtain ⟨k, q, hk, rfl, rfl, hq, HA, HQ⟩ := hrel
    by_cases hlt : k < s.size
    · have hts : numD (s.data.toList.take (k + 1)) = 10 * q + (s[k].toNat - 48) := by rw [take_snoc s k hlt, numD_snoc, HQ.out]
      have has : (s.data.toList.take (k + 1)).all isD = isD s[k] := by
        rw [take_snoc s k hlt, List.all_append, HA.out]; simp
      have hc := s[k].toNat_lt
      have hle := numD_take s.data.toList (k + 1)
      have hcall := fun W => qval s[k].toNat hc _ rfl W
      by_cases c1 : 48 ≤ s[k].toNat ∧ s[k].toNat ≤ 57
      · have hd : isD s[k] = true := by unfold isD; simp [c1.1, c1.2]
        have hv := val_dig s[k].toNat c1
        obtain ⟨D, hD⟩ : ∃ D : Nat, D = s[k].toNat - 48 := ⟨_, rfl⟩
        have hDv : (s[k].toNat : Int) - 48 = (D : Int) := by omega
        have hD9 : D ≤ 9 := by omega
        rw [hv, hDv] at hcall
        rw [← hD] at hts
        obtain ⟨c1, c2⟩ := c1
        by_cases hov : 10 * q + D ≤ 9223372036854775807
        · have hno : ¬ (9223372036854775807 - (D : Int)) / 10 < (q : Int) := by omega
          have Hd := Lib.hid hd
          clear hd
          have Hv := Lib.hid hv
          clear hv
          have Hcall := Lib.hid hcall
          clear hcall
          have Hts := Lib.hid hts
          clear hts
          have Has := Lib.hid has
          clear has
          have Hle := Lib.hid hle
          clear hle
          have HD := Lib.hid hD
          clear hD
          have HDv := Lib.hid hDv
          clear hDv
          clear c1 c2
          go_wp2_with fail
          refine (Hcall.out _).mono ?_
          rintro e w1 ⟨rfl, rfl⟩
          go_wp2_with fail
          go_round
          case rel => exact ⟨k + 1, 10 * q + D, by omega, by go_num, by go_num, by omega, Lib.hid (by rw [Has.out, Hd.out]), Lib.hid Hts.out.symm⟩
          case measure => simp [intOf]; omega
        · have hyes : (9223372036854775807 - (D : Int)) / 10 < (q : Int) := by omega
          have hB0 : B = false := by
            cases hBB : B with
            | false => rfl
            | true =>
              exfalso
              have h2 := (HP.out hBB).2
              have h3 := HBD.out.2
              omega
          have hV0 : V = 0 := by rw [HV.out, hB0]; rfl
          subst hB0 hV0
          have Hd := Lib.hid hd
          clear hd
          have Hv := Lib.hid hv
          clear hv
          have Hcall := Lib.hid hcall
          clear hcall
          have Hts := Lib.hid hts
          clear hts
          have Has := Lib.hid has
          clear has
          have Hle := Lib.hid hle
          clear hle
          have HD := Lib.hid hD
          clear hD
          have HDv := Lib.hid hDv
          clear hDv
          clear c1 c2 hov
          go_wp2_with fail
          refine (Hcall.out _).mono ?_
          rintro e w1 ⟨rfl, rfl⟩
          go_wp2_with fail
          go_ret2
          exact ⟨rfl, H0.out⟩
      · have hd : isD s[k] = false := by unfold isD; simp; omega
        have hv := val_not s[k].toNat c1
        have hB0 : B = false := by
          cases hBB : B with
          | false => rfl
          | true =>
            exfalso
            have h2 := all_take _ (k + 1) (HP.out hBB).1
            rw [has, hd] at h2
            cases h2
        have hV0 : V = 0 := by rw [HV.out, hB0]; rfl
        subst hB0 hV0
        obtain ⟨v, hvv⟩ : ∃ v, v = val s[k].toNat := ⟨_, rfl⟩
        rw [← hvv] at hv hcall
        have Hvv := Lib.hid hvv
        clear hvv
        have Hcall := Lib.hid hcall
        clear hcall
        have Hts := Lib.hid hts
        clear hts
        have Has := Lib.hid has
        clear has
        have Hd := Lib.hid hd
        clear hd
        have Hle := Lib.hid hle
        clear hle
        clear c1
        rcases hv with hv | hv
        · go_wp2_with fail
          refine (Hcall.out _).mono ?_
          rintro e w1 ⟨rfl, rfl⟩
          go_wp2_with fail
          go_ret2
          exact ⟨rfl, H0.out⟩
        · have hv0 : ¬ v < 0 := by omega
          go_wp2_with fail
          refine (Hcall.out _).mono ?_
          rintro e w1 ⟨rfl, rfl⟩
          go_wp2_with fail
          go_ret2
          exact ⟨rfl, H0.out⟩
    · have hqf : (q : Int) = (numD s.data.toList : Nat) := by rw [HQ.out, List.take_of_length_le (by simp; omega)]
      have HQF := Lib.hid hqf
      clear hqf
      go_wp2_with fail
      refine (num_any (q : Int) (by omega) _ rfl).calls H0.out ?_
      intro w1 hW
      have HW := Lib.hid hW
      clear hW
      by_cases hE : bs (numS (q : Int)) = s
      · have hl : numS (q : Int) = s.data.toList := by rw [← hE]; rfl
        have hq2 : V0 = (q : Int) := by rw [HV0.out, ← hl]; exact unV_numS _ (by omega)
        have hB0 : B = true := by rw [HB.out, hq2]; exact decide_eq_true hE
        have hV0 : V = (q : Int) := by rw [HV.out, hB0, hq2]; rfl
        have hst := str_eq_f hE
        subst hB0 hV0
        have HE := Lib.hid hE
        clear hE
        have Hl := Lib.hid hl
        clear hl
        have Hq2 := Lib.hid hq2
        clear hq2
        go_wp2_with fail
        go_ret2
        exact ⟨rfl, HW.out⟩
      · have hB0 : B = false := by
          cases hBB : B with
          | false => rfl
          | true =>
            exfalso
            have h2 := HP.out hBB
            have h3 := HB.out
            rw [hBB] at h3
            have h4 := of_decide_eq_true h3.symm
            exact hE (by rw [← h4, ← h2.2, ← HQF.out])
        have hst := str_ne_t hE
        have hV0 : V = 0 := by rw [HV.out, hB0]; rfl
        subst hB0 hV0
        have HE := Lib.hid hE
        clear hE
        go_wp2_with fail
        go_ret2
        exact ⟨rfl, HW.out⟩

set_option maxRecDepth 100000 in
set_option maxHeartbeats 2000000 in
theorem unnum_neg (s : ByteArray) (h1 : 1 ≤ s.size) (hs : s.size ≤ 20) (h45 : s[0].toNat = 45) (V0 V : Int) (B : Bool) (h0 : V0 = unV s.data.toList) (hB : B = decide (bs (numS V0) = s)) (hV : V = if B = true then V0 else 0) :
    Mak 51 #[.string s] (.tuple #[.int .i64 V, .bool B]) := by
  intro w
  have hbd := unV_bounds s.data.toList
  rw [← h0] at hbd
  have h9 : s.size = s.data.toList.length := rfl
  obtain ⟨m, hm⟩ : ∃ m, s.data.toList = 45 :: m := by
    have h2 : s[0] = 45 := UInt8.toNat_inj.1 h45
    cases hl : s.data.toList with
    | nil => rw [hl, List.length_nil] at h9; omega
    | cons x m =>
      have h3 : s[0] = s.data.toList[0] := rfl
      simp only [hl] at h3
      exact ⟨m, by rw [← h2, h3]; rfl⟩
  have hmk : ∀ k, (hk : k + 1 < s.size) → m.take (k + 1) = m.take k ++ [s[k + 1]] := fun k hk => by
    have h3 : s[k + 1] = s.data.toList[k + 1] := rfl
    have h4 : k < m.length := by rw [h9, hm, List.length_cons] at hk; omega
    rw [List.take_succ_eq_append_getElem h4, h3]
    simp only [hm]
    rfl
  have hml : s.size = m.length + 1 := by rw [h9, hm, List.length_cons]
  have hp : B = true → m.all isD = true ∧ -(numD m : Int) = V0 := fun h => by
    rw [h] at hB
    have h2 := of_decide_eq_true hB.symm
    rw [h0] at h2
    have h3 := neg_true s.data.toList m hm (by rw [← list_bs (numS _), h2])
    rwa [← h0] at h3
  have hb45 : ((s[0].toNat : Int) == 45) = true := by rw [h45]; rfl
  have HP := Lib.hid hp
  have HV0 := Lib.hid h0
  have HBD := Lib.hid hbd
  have H0 := Lib.hid (Since.refl w)
  have HB := Lib.hid hB
  clear hB
  have HV := Lib.hid hV
  clear hV
  have Hmk := Lib.hid hmk
  clear hmk
  have Hm := Lib.hid hm
  clear hm
  have Hml := Lib.hid hml
  clear hml
  clear hp h0 hbd h9 h45
  go_enter Tryd.func51, Tryd.ntmps51
  go_wp2
  go_loop [6, 7] (fun n i => ∃ k q : Nat, k + 1 ≤ s.size ∧ i = .int .i64 ((k : Int) + 1) ∧ n = .int .i64 (-(q : Int)) ∧ q ≤ 9223372036854775808 ∧ Hid ((m.take k).all isD = true) ∧ Hid (q = numD (m.take k))) (fun _ i => s.size - (intOf i).toNat)
  case atStart => exact ⟨0, 0, h1, rfl, rfl, by omega, Lib.hid rfl, Lib.hid rfl⟩
  case round =>
    obtain ⟨k, q, hk, rfl, rfl, hq, HA, HQ⟩ := hrel
    by_cases hlt : k + 1 < s.size
    · have hts : numD (m.take (k + 1)) = 10 * q + (s[k + 1].toNat - 48) := by rw [Hmk.out k hlt, numD_snoc, HQ.out]
      have has : (m.take (k + 1)).all isD = isD s[k + 1] := by
        rw [Hmk.out k hlt, List.all_append, HA.out]; simp
      have hc := s[k + 1].toNat_lt
      have hle := numD_take m (k + 1)
      have hcall := fun W => qval s[k + 1].toNat hc _ rfl W
      by_cases c1 : 48 ≤ s[k + 1].toNat ∧ s[k + 1].toNat ≤ 57
      · have hd : isD s[k + 1] = true := by unfold isD; simp [c1.1, c1.2]
        have hv := val_dig s[k + 1].toNat c1
        obtain ⟨D, hD⟩ : ∃ D : Nat, D = s[k + 1].toNat - 48 := ⟨_, rfl⟩
        have hDv : (s[k + 1].toNat : Int) - 48 = (D : Int) := by omega
        have hD9 : D ≤ 9 := by omega
        rw [hv, hDv] at hcall
        rw [← hD] at hts
        obtain ⟨c1, c2⟩ := c1
        obtain ⟨T, hT⟩ : ∃ T : Nat, T = (9223372036854775808 - D) / 10 := ⟨_, rfl⟩
        have e1 : (-9223372036854775808 + (D : Int)).tdiv 10 = -(T : Int) := by
          rw [show (-9223372036854775808 + (D : Int)) = -((9223372036854775808 - D : Nat) : Int) from by omega, Int.neg_tdiv, Int.tdiv_eq_ediv_of_nonneg (by omega), hT]
          omega
        by_cases hov : 10 * q + D ≤ 9223372036854775808
        · have hno : q ≤ T := by omega
          have hT2 : T ≤ 922337203685477580 := by omega
          have Hd := Lib.hid hd
          clear hd
          have Hv := Lib.hid hv
          clear hv
          have Hcall := Lib.hid hcall
          clear hcall
          have Hts := Lib.hid hts
          clear hts
          have Has := Lib.hid has
          clear has
          have Hle := Lib.hid hle
          clear hle
          have HD := Lib.hid hD
          clear hD
          have HDv := Lib.hid hDv
          clear hDv
          have HT := Lib.hid hT
          clear hT
          clear c1 c2
          go_wp2_with fail
          refine (Hcall.out _).mono ?_
          rintro e w1 ⟨rfl, rfl⟩
          go_wp2_with fail
          go_round
          case rel => exact ⟨k + 1, 10 * q + D, by omega, by go_num, by first | go_num | (congr 1; omega), by omega, Lib.hid (by rw [Has.out, Hd.out]), Lib.hid Hts.out.symm⟩
          case measure => simp [intOf]; omega
        · have hyes : T < q := by omega
          have hB0 : B = false := by
            cases hBB : B with
            | false => rfl
            | true =>
              exfalso
              have h2 := (HP.out hBB).2
              have h3 := HBD.out.1
              omega
          have hV0 : V = 0 := by rw [HV.out, hB0]; rfl
          subst hB0 hV0
          have Hd := Lib.hid hd
          clear hd
          have Hv := Lib.hid hv
          clear hv
          have Hcall := Lib.hid hcall
          clear hcall
          have Hts := Lib.hid hts
          clear hts
          have Has := Lib.hid has
          clear has
          have Hle := Lib.hid hle
          clear hle
          have HD := Lib.hid hD
          clear hD
          have HDv := Lib.hid hDv
          clear hDv
          have HT := Lib.hid hT
          clear hT
          clear c1 c2 hov
          go_wp2_with fail
          refine (Hcall.out _).mono ?_
          rintro e w1 ⟨rfl, rfl⟩
          go_wp2_with fail
          go_ret2
          exact ⟨rfl, H0.out⟩
      · have hd : isD s[k + 1] = false := by unfold isD; simp; omega
        have hv := val_not s[k + 1].toNat c1
        have hB0 : B = false := by
          cases hBB : B with
          | false => rfl
          | true =>
            exfalso
            have h2 := all_take _ (k + 1) (HP.out hBB).1
            rw [has, hd] at h2
            cases h2
        have hV0 : V = 0 := by rw [HV.out, hB0]; rfl
        subst hB0 hV0
        obtain ⟨v, hvv⟩ : ∃ v, v = val s[k + 1].toNat := ⟨_, rfl⟩
        rw [← hvv] at hv hcall
        have Hvv := Lib.hid hvv
        clear hvv
        have Hcall := Lib.hid hcall
        clear hcall
        have Hts := Lib.hid hts
        clear hts
        have Has := Lib.hid has
        clear has
        have Hd := Lib.hid hd
        clear hd
        have Hle := Lib.hid hle
        clear hle
        clear c1
        rcases hv with hv | hv
        · go_wp2_with fail
          refine (Hcall.out _).mono ?_
          rintro e w1 ⟨rfl, rfl⟩
          go_wp2_with fail
          go_ret2
          exact ⟨rfl, H0.out⟩
        · have hv0 : ¬ v < 0 := by omega
          go_wp2_with fail
          refine (Hcall.out _).mono ?_
          rintro e w1 ⟨rfl, rfl⟩
          go_wp2_with fail
          go_ret2
          exact ⟨rfl, H0.out⟩
    · have hqf : -(q : Int) = -(numD m : Nat) := by rw [HQ.out, List.take_of_length_le (by have := Hml.out; omega)]
      have HQF := Lib.hid hqf
      clear hqf
      go_wp2_with fail
      refine (num_any (-(q : Int)) (by omega) _ rfl).calls H0.out ?_
      intro w1 hW
      have HW := Lib.hid hW
      clear hW
      by_cases hE : bs (numS (-(q : Int))) = s
      · have hl : numS (-(q : Int)) = s.data.toList := by rw [← hE]; rfl
        have hq2 : V0 = (-(q : Int)) := by rw [HV0.out, ← hl]; exact unV_numS _ (by omega)
        have hB0 : B = true := by rw [HB.out, hq2]; exact decide_eq_true hE
        have hV0 : V = (-(q : Int)) := by rw [HV.out, hB0, hq2]; rfl
        have hst := str_eq_f hE
        subst hB0 hV0
        have HE := Lib.hid hE
        clear hE
        have Hl := Lib.hid hl
        clear hl
        have Hq2 := Lib.hid hq2
        clear hq2
        go_wp2_with fail
        go_ret2
        exact ⟨rfl, HW.out⟩
      · have hB0 : B = false := by
          cases hBB : B with
          | false => rfl
          | true =>
            exfalso
            have h2 := HP.out hBB
            have h3 := HB.out
            rw [hBB] at h3
            have h4 := of_decide_eq_true h3.symm
            exact hE (by rw [← h4, ← h2.2, ← HQF.out])
        have hst := str_ne_t hE
        have hV0 : V = 0 := by rw [HV.out, hB0]; rfl
        subst hB0 hV0
        have HE := Lib.hid hE
        clear hE
        go_wp2_with fail
        go_ret2
        exact ⟨rfl, HW.out⟩

end RefDig
end Go.Proofs.YtoledeeefcbgnaaDoor
