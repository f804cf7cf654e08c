/- The reference's decimal texts: plain, Num, Dec, Undec, Unnum. -/
import Derived.Test.YtldipjlepofdgaaBase
import Derived.Test.YtldipjlepofdgaaStr
import Derived.Test.YtldipjlepofdgaaMemS
import Derived.Test.YtldipjlepofdgaaDigM
import Derived.Test.YtldipjlepofdgaaDig2
import Derived.Test.YtldipjlepofdgaaNum
import Derived.Test.YtldipjlepofdgaaDigB
import Derived.Test.YtldipjlepofdgaaRefDig
import Derived.Test.YtldipjlepofdgaaUnnum
namespace Go.Proofs.Ytldipjlepofdgaa
open Go.RowKit
namespace RefDig
open Dig

theorem digs_spec (f : Nat) : ∀ M : Nat, 1 ≤ f → M < 10 ^ f → 1 ≤ (digs f M).length ∧ (digs f M).length ≤ f ∧ M < 10 ^ (digs f M).length ∧ ((digs f M).length = 1 ∨ 10 ^ ((digs f M).length - 1) ≤ M) := by
  induction f with
  | zero => intro M h; omega
  | succ f ih =>
    intro M _ h2
    unfold digs
    by_cases hM : M < 10
    · rw [if_pos hM]; simp; omega
    · rw [if_neg hM]
      have hf : 1 ≤ f := by
        apply Classical.byContradiction
        intro h
        have : f = 0 := by omega
        subst this
        simp at h2
        omega
      obtain ⟨a, b, c, d⟩ := ih (M / 10) hf (by rw [Nat.pow_succ] at h2; omega)
      rw [List.length_append]
      obtain ⟨L, hL⟩ : ∃ L, L = (digs f (M / 10)).length := ⟨_, rfl⟩
      rw [← hL] at a b c d ⊢
      simp only [List.length_cons, List.length_nil, Nat.zero_add, Nat.add_sub_cancel]
      refine ⟨by omega, by omega, by rw [Nat.pow_succ]; omega, Or.inr ?_⟩
      rcases d with d | d
      · rw [d]; omega
      · obtain ⟨K, rfl⟩ : ∃ K, L = K + 1 := ⟨L - 1, by omega⟩
        rw [Nat.add_sub_cancel] at d
        rw [Nat.pow_succ]
        omega
theorem digs_eq (M L : Nat) (h1 : 1 ≤ L) (h2 : M < 10 ^ L) (h3 : L = 1 ∨ 10 ^ (L - 1) ≤ M) (hM : M ≤ 9223372036854775808) : digs 20 M = (List.range L).map fun i => UInt8.ofNat (dg M (L - 1 - i)).toNat :=
  digs_map 20 L M h1 (by
    rcases h3 with h3 | h3
    · omega
    · apply Classical.byContradiction
      intro hne
      have h5 : 10 ^ 20 ≤ 10 ^ (L - 1) := Nat.pow_le_pow_right (by decide) (by omega)
      have h6 : (9223372036854775808 : Nat) < 10 ^ 20 := by decide
      omega) h2 h3
theorem digs_fuel (f : Nat) : ∀ M : Nat, M < 10 ^ f → 1 ≤ f → digs f M = digs (f + 1) M := by
  induction f with
  | zero => intro M _ h; omega
  | succ f ih =>
    intro M h2 _
    show (if M < 10 then [UInt8.ofNat (48 + M)] else digs f (M / 10) ++ [UInt8.ofNat (48 + M % 10)]) = (if M < 10 then [UInt8.ofNat (48 + M)] else digs (f + 1) (M / 10) ++ [UInt8.ofNat (48 + M % 10)])
    by_cases hM : M < 10
    · rw [if_pos hM, if_pos hM]
    · rw [if_neg hM, if_neg hM, ih (M / 10) (by rw [Nat.pow_succ] at h2; omega) (by
        apply Classical.byContradiction
        intro h
        have : f = 0 := by omega
        subst this
        simp at h2
        omega)]
theorem digs_ten (M : Nat) (h : 10 ≤ M) (hM : M ≤ 9223372036854775808) : digs 20 M = digs 20 (M / 10) ++ digs 20 (M % 10) := by
  have h1 : digs 20 M = digs 19 (M / 10) ++ [UInt8.ofNat (48 + M % 10)] := by
    show (if M < 10 then [UInt8.ofNat (48 + M)] else digs 19 (M / 10) ++ [UInt8.ofNat (48 + M % 10)]) = _
    rw [if_neg (by omega)]
  have h2 : digs 20 (M % 10) = [UInt8.ofNat (48 + M % 10)] := by
    show (if M % 10 < 10 then [UInt8.ofNat (48 + M % 10)] else _) = _
    rw [if_pos (by omega)]
  rw [h1, h2, digs_fuel 19 (M / 10) (Nat.lt_of_le_of_lt (show M / 10 ≤ 922337203685477580 by omega) (by decide)) (by decide)]

/-- k digits of a number, from the right -/
def lowD (M k : Nat) : List UInt8 := (List.range k).map fun i => UInt8.ofNat (dg M (k - 1 - i)).toNat
theorem lowD_len (M k : Nat) : (lowD M k).length = k := by simp [lowD]
theorem lowD_succ (M k : Nat) : lowD M (k + 1) = UInt8.ofNat (48 + M / 10 ^ k % 10) :: lowD M k := by
  unfold lowD
  rw [List.range_succ_eq_map, List.map_cons, List.map_map]
  have h1 : (dg M (k + 1 - 1 - 0)).toNat = 48 + M / 10 ^ k % 10 := by unfold dg; rw [show k + 1 - 1 - 0 = k from by omega]; omega
  rw [h1]
  congr 1
  apply List.map_congr_left
  intro i _
  show UInt8.ofNat (dg M (k + 1 - 1 - (i + 1))).toNat = _
  rw [show k + 1 - 1 - (i + 1) = k - 1 - i from by omega]
theorem sign_dec (d : Nat) (h : d < 10) : sign d = UInt8.ofNat (48 + d) := by
  rcases (show d = 0 ∨ d = 1 ∨ d = 2 ∨ d = 3 ∨ d = 4 ∨ d = 5 ∨ d = 6 ∨ d = 7 ∨ d = 8 ∨ d = 9 by omega) with rfl | rfl | rfl | rfl | rfl | rfl | rfl | rfl | rfl | rfl <;> rfl

set_option maxHeartbeats 1000000 in
theorem plain_any (M : Nat) (hM : M ≤ 9223372036854775807) (X : ByteArray) (hX : X = bs (digs 20 M)) : Mak 58 #[.int .i64 (M : Int)] (.string X) := by
  intro w
  have HX := Lib.hid hX
  clear hX
  have H0 := Lib.hid (Since.refl w)
  go_enter Try.func58, Try.ntmps58
  go_wp2
  go_loopw [0, 3] (fun v s wr => ∃ (k q : Nat) (S : ByteArray), v = .int .i64 (q : Int) ∧ q ≤ 9223372036854775807 ∧ k ≤ 20 ∧ Hid (q = M / 10 ^ k) ∧ (k = 0 → q = M) ∧ s = .string S ∧ S.size ≤ k ∧ k ≤ S.size ∧ Hid (S = bs (lowD M k)) ∧ Hid (k ≤ 1 ∨ 10 ^ (k - 1) ≤ M) ∧ Hid (Since w wr)) (fun v s _ => match v, s with | .int _ q, .string S => q.toNat * 2 + (1 - S.size) | _, _ => 0)
  case atStart => exact ⟨0, M, ⟨#[]⟩, rfl, hM, by omega, Lib.hid (by simp), fun _ => rfl, rfl, Nat.le_refl _, Nat.le_refl _, Lib.hid rfl, Lib.hid (Or.inl (by omega)), H0⟩
  case round =>
    obtain ⟨k, q, S, rfl, hq, hk, HQ, hq0, rfl, hs1, hs2, HS, HK, HW⟩ := hrel
    by_cases hgo : 0 < q ∨ k = 0
    · have hk19 : k ≤ 19 := by
        rcases hgo with h | h
        · apply Classical.byContradiction
          intro h7
          have h6 : M / 10 ^ k = 0 := Nat.div_eq_of_lt (Nat.lt_of_le_of_lt hM (Nat.lt_of_lt_of_le (show (9223372036854775807 : Nat) < 10 ^ 19 by decide) (Nat.pow_le_pow_right (by decide) (by omega))))
          have h5 := HQ.out
          omega
        · omega
      have hkk : k + 1 ≤ 1 ∨ 10 ^ (k + 1 - 1) ≤ M := by
        rcases hgo with h | h
        · right
          apply Classical.byContradiction
          intro h7
          have h6 : M / 10 ^ k = 0 := Nat.div_eq_of_lt (by simpa using h7)
          have h5 := HQ.out
          omega
        · left; omega
      have hnext : q / 10 = M / 10 ^ (k + 1) := by rw [HQ.out, Nat.div_div_eq_div_mul, Nat.pow_succ]
      obtain ⟨d, hd⟩ : ∃ d, q % 10 = d := ⟨_, rfl⟩
      have hd2 : d < 10 := by omega
      have qd : (q : Int) % 10 = (d : Int) := by omega
      have hcut := sign_cut d (by omega)
      have hlow : bs [sign d] ++ S = bs (lowD M (k + 1)) := by
        apply ba_ext
        rw [app_list, list_bs, HS.out, list_bs, list_bs, lowD_succ, ← HQ.out, hd, sign_dec d hd2]; rfl
      have hsz : ¬ 9223372036854775807 < (bs [sign d]).size + S.size := by rw [size_bs]; simp; omega
      have hlen : (bs [sign d] ++ S).size = S.size + 1 := by
        rw [hlow, HS.out, size_bs, size_bs, lowD_len, lowD_len]
      have e1 : IntKind.i64.wrap ((d : Int) + 1) = (d : Int) + 1 := IntWalk.i64_in _ (by omega)
      have n1 : ((d : Int) + 1).toNat = d + 1 := by omega
      have Hkk := Lib.hid hkk
      clear hkk
      have Hnext := Lib.hid hnext
      clear hnext
      have Hlow := Lib.hid hlow
      clear hlow
      have Hlen := Lib.hid hlen
      clear hlen
      clear hd
      by_cases h0 : 0 < q
      · clear hgo hq0
        go_wp2_with fail
        try go_quiet (fail)
        go_wp2_with fail
        go_roundw
        case rel => exact ⟨k + 1, q / 10, _, by go_num, by omega, by omega, Hnext, fun h => by omega, rfl, by rw [Hlen.out]; omega, by rw [Hlen.out]; omega, Hlow, Hkk, HW⟩
        case measure => simp [intOf]; have := Hlen.out; omega
      · have hq00 : q = 0 := by omega
        have hk0 : k = 0 := by omega
        subst hq00
        subst hk0
        obtain rfl : S = ⟨#[]⟩ := ba_ext (List.eq_nil_of_length_eq_zero (by have h8 : S.size = S.data.toList.length := rfl; omega))
        have hM0 : M = 0 := (hq0 rfl).symm
        subst hM0
        clear hgo hq0
        go_wp2_with fail
        try go_quiet (fail)
        go_wp2_with fail
        go_roundw
        case rel => exact ⟨1, 0, _, rfl, by omega, by omega, Lib.hid rfl, fun h => by omega, rfl, by decide, by decide, Lib.hid (by decide), Lib.hid (Or.inl (by omega)), HW⟩
        case measure => decide
    · have hq00 : q = 0 := by omega
      have hk1 : 1 ≤ k := by omega
      subst hq00
      have hlt2 : M < 10 ^ k := by
        have h9 := HQ.out
        exact (Nat.div_eq_zero_iff.1 h9.symm).resolve_left (Nat.ne_of_gt (Nat.pow_pos (by decide)))
      have hX2 : X = S := by
        rw [HX.out, HS.out, digs_eq M k hk1 hlt2 (by rcases HK.out with h | h <;> omega) (by omega)]; rfl
      subst hX2
      have hne := some_bytes X (by omega)
      have hne2 := some_bytes_f X (by omega)
      clear hgo hq0 hlt2
      go_wp2_with fail
      go_ret
      exact ⟨rfl, HW.out⟩


theorem wrap_neg (q : Nat) (h : q ≤ 9223372036854775808) (h2 : 1 ≤ q) : -((q : Int)) = -(q : Int) := rfl

set_option maxHeartbeats 1000000 in
theorem num_any (n : Int) (h : -9223372036854775808 ≤ n ∧ n ≤ 9223372036854775807) (X : ByteArray) (hX : X = bs (numS n)) : Mak 46 #[.int .i64 n] (.string X) := by
  obtain ⟨h1, h2⟩ := h
  by_cases hn : 0 ≤ n
  · obtain ⟨M, rfl⟩ := Int.eq_ofNat_of_zero_le hn
    have hp := plain_any M (by omega) X (by rw [hX]; unfold numS; rw [if_neg (by omega)]; rfl)
    intro w
    have H0 := Lib.hid (Since.refl w)
    clear hX
    go_enter Try.func46, Try.ntmps46
    go_wp2_with fail
    refine (hp).calls H0.out ?_
    intro w1 h1
    have H1 := Lib.hid h1
    clear h1
    go_wp2_with fail
    go_ret
    exact ⟨rfl, H1.out⟩
  · obtain ⟨M, hM⟩ : ∃ M : Nat, n = -(M : Int) := ⟨n.natAbs, by omega⟩
    have hM1 : 1 ≤ M := by omega
    have hM2 : M ≤ 9223372036854775808 := by omega
    have hnat : n.natAbs = M := by omega
    have hXX : X = bs (45 :: digs 20 M) := by rw [hX]; unfold numS; rw [if_pos (by omega), hnat]
    have hlast := plain_any (M % 10) (by omega) _ rfl
    have hrest := plain_any (M / 10) (by omega) _ rfl
    have e1 : n.tmod 10 = -((M % 10 : Nat) : Int) := neg_mod n M hM
    have e2 : n.tdiv 10 = -((M / 10 : Nat) : Int) := neg_div n M hM
    have hdg : ¬ M < 10 → digs 20 M = digs 20 (M / 10) ++ digs 20 (M % 10) := fun h => digs_ten M (by omega) hM2
    have hlt : M < 10 → digs 20 (M % 10) = digs 20 M := fun h => by rw [Nat.mod_eq_of_lt h]
    have hdv : M < 10 → M / 10 = 0 := fun h => by omega
    have hdv2 : ¬ M < 10 → 1 ≤ M / 10 := fun h => by omega
    have l1 : (digs 20 (M / 10)).length ≤ 20 := (digs_spec 20 (M / 10) (by decide) (Nat.lt_of_le_of_lt (show M / 10 ≤ 922337203685477580 by omega) (by decide))).2.1
    have l2 : (digs 20 (M % 10)).length ≤ 20 := (digs_spec 20 (M % 10) (by decide) (Nat.lt_of_le_of_lt (show M % 10 ≤ 9 by omega) (by decide))).2.1
    have b1 : M % 10 ≤ 9 := by omega
    have b2 : M / 10 ≤ 922337203685477580 := by omega
    generalize M % 10 = a at *
    generalize M / 10 = b at *
    intro w
    have H0 := Lib.hid (Since.refl w)
    have HM := Lib.hid hM
    clear hM
    have Hnat := Lib.hid hnat
    clear hnat
    have Hdg := Lib.hid hdg
    clear hdg
    have Hlt := Lib.hid hlt
    clear hlt
    have HX := Lib.hid hX
    clear hX
    have HXX := Lib.hid hXX
    clear hXX
    by_cases h10 : M < 10
    · have hb0 : b = 0 := hdv h10
      subst hb0
      have e3 : n.tdiv 10 = 0 := by rw [e2]; rfl
      clear e2 hdv hdv2
      have hsz : ¬ 9223372036854775807 < (⟨#[45]⟩ : ByteArray).size + (bs (digs 20 a)).size := by
        have h9 : (⟨#[45]⟩ : ByteArray).size = 1 := rfl
        rw [h9, size_bs]; omega
      go_enter Try.func46, Try.ntmps46
      go_wp2_with fail
      refine (hlast).calls H0.out ?_
      intro w1 h1
      have H1 := Lib.hid h1
      clear h1
      go_wp2_with fail
      go_ret
      refine ⟨?_, H1.out⟩
      rw [HXX.out, ← Hlt.out h10]
      rfl
    · have hb0 := hdv2 h10
      have e4 : ((b : Int) == 0) = false := by rw [beq_eq_false_iff_ne]; omega
      have hsz : ¬ 9223372036854775807 < (⟨#[45]⟩ : ByteArray).size + (bs (digs 20 b)).size := by
        have h9 : (⟨#[45]⟩ : ByteArray).size = 1 := rfl
        rw [h9, size_bs]; omega
      have hsz2 : ¬ 9223372036854775807 < (⟨#[45]⟩ ++ bs (digs 20 b)).size + (bs (digs 20 a)).size := by
        have h9 : (⟨#[45]⟩ ++ bs (digs 20 b)).size = (⟨#[45]⟩ ++ bs (digs 20 b)).data.toList.length := rfl
        rw [h9, app_list, List.length_append, list_bs, size_bs]
        have h8 : (⟨#[45]⟩ : ByteArray).data.toList.length = 1 := rfl
        omega
      clear hdv hdv2
      go_enter Try.func46, Try.ntmps46
      go_wp2_with fail
      refine (hrest).calls H0.out ?_
      intro w1 h1
      have H1 := Lib.hid h1
      clear h1
      go_wp2_with fail
      refine (hlast).calls H1.out ?_
      intro w2 h2
      have H2 := Lib.hid h2
      clear h2
      go_wp2_with fail
      go_ret
      refine ⟨?_, H2.out⟩
      rw [HXX.out, Hdg.out h10]
      exact congrArg (fun x => Ending.returned (.string x)) (ba_ext (by rw [app_list, app_list, list_bs, list_bs, list_bs]; rfl))

theorem numD_digs (f : Nat) : ∀ M : Nat, M < 10 ^ f → numD (digs f M) = M ∧ (digs f M).all isD = true := by
  induction f with
  | zero => intro M h; simp at h; subst h; exact ⟨rfl, rfl⟩
  | succ f ih =>
    intro M h
    unfold digs
    have hb : ∀ d : Nat, d < 10 → (UInt8.ofNat (48 + d)).toNat = 48 + d := fun d hd => by rw [UInt8.toNat_ofNat']; omega
    have hi : ∀ d : Nat, d < 10 → isD (UInt8.ofNat (48 + d)) = true := fun d hd => by unfold isD; rw [hb d hd]; simp; omega
    by_cases hM : M < 10
    · rw [if_pos hM]
      refine ⟨?_, by rw [List.all_cons, hi M hM]; rfl⟩
      show 10 * 0 + ((UInt8.ofNat (48 + M)).toNat - 48) = M
      rw [hb M hM]; omega
    · rw [if_neg hM]
      obtain ⟨h1, h2⟩ := ih (M / 10) (by rw [Nat.pow_succ] at h; omega)
      refine ⟨?_, by rw [List.all_append, h2, List.all_cons, hi (M % 10) (by omega)]; rfl⟩
      rw [numD_snoc, h1, hb (M % 10) (by omega)]; omega
theorem fold_ge (m : List UInt8) : ∀ n : Nat, n ≤ m.foldl (fun n c => 10 * n + (c.toNat - 48)) n := by
  induction m with
  | nil => intro n; exact Nat.le_refl _
  | cons c m ih => intro n; exact Nat.le_trans (by omega) (ih (10 * n + (c.toNat - 48)))
theorem numD_app (l m : List UInt8) : numD l ≤ numD (l ++ m) := by
  unfold numD
  rw [List.foldl_append]
  exact fold_ge m _
theorem numD_take (l : List UInt8) (k : Nat) : numD (l.take k) ≤ numD l := by
  have h := numD_app (l.take k) (l.drop k)
  rwa [List.take_append_drop] at h

/-- a text of digits whose number's text it is -/
theorem pos_true (l : List UInt8) (hh : l.head? ≠ some 45) (h : numS (unV l) = l) : l.all isD = true ∧ (numD l : Int) = unV l := by
  have hb := unV_bounds l
  have hlt : (unV l).natAbs < 10 ^ 20 := Nat.lt_of_le_of_lt (show (unV l).natAbs ≤ 9223372036854775808 by omega) (by decide)
  obtain ⟨h1, h2⟩ := numD_digs 20 _ hlt
  by_cases hn : unV l < 0
  · exfalso
    unfold numS at h
    rw [if_pos hn] at h
    exact hh (by rw [← h]; rfl)
  · unfold numS at h
    rw [if_neg hn] at h
    rw [h] at h1 h2
    exact ⟨h2, by rw [h1]; omega⟩
theorem neg_true (l m : List UInt8) (hl : l = 45 :: m) (h : numS (unV l) = l) : m.all isD = true ∧ -(numD m : Int) = unV l := by
  have hb := unV_bounds l
  have hlt : (unV l).natAbs < 10 ^ 20 := Nat.lt_of_le_of_lt (show (unV l).natAbs ≤ 9223372036854775808 by omega) (by decide)
  obtain ⟨h1, h2⟩ := numD_digs 20 _ hlt
  by_cases hn : unV l < 0
  · unfold numS at h
    rw [if_pos hn] at h
    have h3 : digs 20 (unV l).natAbs = m := by rw [hl] at h ⊢; exact List.tail_eq_of_cons_eq h
    rw [h3] at h1 h2
    exact ⟨h2, by rw [h1]; omega⟩
  · exfalso
    unfold numS at h
    rw [if_neg hn] at h
    have h4 := (digs_head 20 (unV l).natAbs (by decide)).2
    rw [h, hl] at h4
    exact h4 rfl

end RefDig
end Go.Proofs.Ytldipjlepofdgaa
