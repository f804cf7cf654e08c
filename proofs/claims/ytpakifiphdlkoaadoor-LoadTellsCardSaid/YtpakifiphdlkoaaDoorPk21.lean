/- Joined texts. -/
-- PACK: YtpakifiphdlkoaaDoorOid3 YtpakifiphdlkoaaDoorOid4 YtpakifiphdlkoaaDoorOid5 YtpakifiphdlkoaaDoorOid8
import Derived.Test.YtpakifiphdlkoaaDoorPk20
import Derived.Test.YtpakifiphdlkoaaDoorPk18
import Derived.Test.YtpakifiphdlkoaaDoorPk5

/- The reference of oid: Right. Both: Encode, Text. -/
namespace Go.Proofs.YtpakifiphdlkoaaDoor
open Go.RowKit
namespace Oid

/-- a call that is handed a slice of numbers -/
def RdI (f : Nat) (xs : List Int) (v : Value) : Prop := ∀ w x, IntsS w x xs → Calls Tryd.prog f #[x] w fun e w' => e = .returned v ∧ Below w.heap.size w w'
set_option maxRecDepth 100000 in
theorem RdI.calls {f : Nat} {xs : List Int} {v x : Value} (h : RdI f xs v) {W0 w : World} (hs : Since W0 w) (hx : IntsS w x xs) {R : Ending → World → Prop} (k : ∀ w', Since W0 w' → R (.returned v) w') : Calls Tryd.prog f #[x] w R :=
  (h w x hx).mono fun _ _ ⟨he, hb⟩ => by subst he; exact k _ (hs.step hb)

set_option maxRecDepth 100000 in
set_option maxHeartbeats 4000000 in
theorem rright_any (w : World) (v : Value) (xs : List Int) (hv : IntsS w v xs) (q : Bool) (hq : q = decide (Ok xs)) :
    Calls Tryd.prog 88 #[v] w fun e w' => e = .returned (.bool q) ∧ w = w' := by
  obtain ⟨A, c, hvs, hc1, hc2⟩ := hv.slice
  have hle := hv.le
  obtain ⟨n, hn⟩ : ∃ n, xs.length = n := ⟨_, rfl⟩
  by_cases h2 : n < 2
  · obtain rfl : q = false := by rw [hq]; exact ok_lt xs (by omega)
    have t1 : decide ((n : Int) < 2) = true := decide_eq_true (by omega)
    rw [hvs, hn]
    rw [hn] at hle
    clear hq hv hvs hn h2 hc1 hc2
    go_enter Tryd.func88, Tryd.ntmps88
    go_wp2_with fail
    go_ret
    exact ⟨rfl, rfl⟩
  · have t1 : decide ((n : Int) < 2) = false := decide_eq_false (by omega)
    by_cases h20 : 20 < n
    · obtain rfl : q = false := by rw [hq]; exact ok_lt xs (by omega)
      have t2 : decide ((20 : Int) < (n : Int)) = true := decide_eq_true (by omega)
      rw [hvs, hn]
      rw [hn] at hle
      clear hq hv hvs hn h2 h20 hc1 hc2
      go_enter Tryd.func88, Tryd.ntmps88
      go_wp2_with fail
      go_ret
      exact ⟨rfl, rfl⟩
    · have t2 : decide ((20 : Int) < (n : Int)) = false := decide_eq_false (by omega)
      obtain ⟨b, o, c, rfl, hc1, hc2, hlt, hcell⟩ := hv.form (by omega)
      have k0 := hcell 0 (by omega)
      rw [Nat.add_zero] at k0
      obtain ⟨x0, hx0⟩ : ∃ x, x = xs.getD 0 0 := ⟨_, rfl⟩
      rw [← hx0] at k0
      rw [hn] at hc1 hle hcell ⊢
      have i9 : 0 < n := by omega
      by_cases g1 : x0 < 0
      · obtain rfl : q = false := by rw [hq]; exact ok_lt xs (by omega)
        have t3 : decide (x0 < 0) = true := decide_eq_true g1
        clear hq hv hn hx0 hcell g1 h2 h20 hc1 hc2
        go_enter Tryd.func88, Tryd.ntmps88
        go_wp2_with fail
        go_ret
        exact ⟨rfl, rfl⟩
      · have t3 : decide (x0 < 0) = false := decide_eq_false g1
        by_cases g2 : 2 < x0
        · obtain rfl : q = false := by rw [hq]; exact ok_lt xs (by omega)
          have t4 : decide (2 < x0) = true := decide_eq_true g2
          clear hq hv hn hx0 hcell g1 g2 h2 h20 hc1 hc2
          go_enter Tryd.func88, Tryd.ntmps88
          go_wp2_with fail
          go_ret
          exact ⟨rfl, rfl⟩
        · have t4 : decide (2 < x0) = false := decide_eq_false g2
          have i0 : 0 ≤ x0 := by omega
          have i2 : x0 ≤ 2 := by omega
          have HC := Lib.hid hcell
          have HL : Hid (xs.length = n) := Lib.hid hn
          have HQ := Lib.hid hq
          have HX0 := Lib.hid hx0
          have hm9 : n ≤ 20 := by omega
          have hm1 : 2 ≤ n := by omega
          clear hq hv hn hx0 g1 g2 h2 h20 hc1 hc2 hcell
          go_enter Tryd.func88, Tryd.ntmps88
          go_wp2_with fail
          go_loop [3] (fun i => ∃ k : Nat, 1 ≤ k ∧ k ≤ n ∧ i = .int .i64 (k : Int) ∧ Hid (∀ j, j + 1 < k → 0 ≤ xs.getD (j + 1) 0 ∧ xs.getD (j + 1) 0 ≤ mst x0 j)) (fun i => n - (intOf i).toNat)
          case atStart => exact ⟨1, by omega, by omega, rfl, Lib.hid (fun j hj => by omega)⟩
          case round =>
            obtain ⟨k, hk1, hk, rfl, HA⟩ := hrel
            by_cases hlt : k < n
            · have hck := HC.out k hlt
              obtain ⟨x, hx⟩ : ∃ x, x = xs.getD k 0 := ⟨_, rfl⟩
              rw [← hx] at hck
              obtain ⟨M, hM⟩ : ∃ M, M = mst x0 (k - 1) := ⟨_, rfl⟩
              have Hx := Lib.hid hx
              clear hx
              by_cases hk0 : k = 1
              · have t6 : ((k : Int) == 1) = true := by rw [beq_iff_eq]; omega
                obtain rfl : M = if x0 = 2 then 2147483567 else 39 := by rw [hM, hk0]; rfl
                have HK1 := Lib.hid hk0
                clear hk0 hM
                by_cases g3 : x0 = 2
                · have t5 : decide (x0 < 2) = false := decide_eq_false (by omega)
                  have HM : Hid ((2147483567 : Int) = mst x0 (k - 1)) := Lib.hid (by rw [HK1.out]; unfold mst; rw [if_pos rfl, if_pos g3])
                  clear g3
                  by_cases g1 : x < 0
                  · have g1d : decide (x < 0) = true := decide_eq_true g1
                    obtain rfl : q = false := by
                      rw [HQ.out]
                      refine ok_bad xs (k - 1) (by have := HL.out; omega) ?_
                      rw [show k - 1 + 1 = k from by omega, ← Hx.out]; omega
                    clear g1
                    go_wp2_with fail
                    go_ret
                    exact ⟨rfl, rfl⟩
                  · have g1d : decide (x < 0) = false := decide_eq_false g1
                    by_cases g2 : 2147483567 < x
                    · have g2d : decide (2147483567 < x) = true := decide_eq_true g2
                      obtain rfl : q = false := by
                        rw [HQ.out]
                        refine ok_bad xs (k - 1) (by have := HL.out; omega) ?_
                        rw [show k - 1 + 1 = k from by omega, ← Hx.out, ← HX0.out, ← HM.out]; omega
                      clear g1 g2
                      go_wp2_with fail
                      go_ret
                      exact ⟨rfl, rfl⟩
                    · have g2d : decide (2147483567 < x) = false := decide_eq_false g2
                      have hA2 : ∀ j, j + 1 < k + 1 → 0 ≤ xs.getD (j + 1) 0 ∧ xs.getD (j + 1) 0 ≤ mst x0 j := fun j hj => by
                        by_cases h9 : j = k - 1
                        · rw [h9, ← HM.out, show k - 1 + 1 = k from by omega, ← Hx.out]; omega
                        · exact HA.out j (by omega)
                      have HA2 := Lib.hid hA2
                      clear hA2
                      clear g1 g2
                      go_wp2_with fail
                      go_round
                      case rel => exact ⟨k + 1, by omega, by omega, by go_num, HA2⟩
                      case measure => simp [intOf]; omega
                · have t5 : decide (x0 < 2) = true := decide_eq_true (by omega)
                  have HM : Hid ((39 : Int) = mst x0 (k - 1)) := Lib.hid (by rw [HK1.out]; unfold mst; rw [if_pos rfl, if_neg g3])
                  clear g3
                  by_cases g1 : x < 0
                  · have g1d : decide (x < 0) = true := decide_eq_true g1
                    obtain rfl : q = false := by
                      rw [HQ.out]
                      refine ok_bad xs (k - 1) (by have := HL.out; omega) ?_
                      rw [show k - 1 + 1 = k from by omega, ← Hx.out]; omega
                    clear g1
                    go_wp2_with fail
                    go_ret
                    exact ⟨rfl, rfl⟩
                  · have g1d : decide (x < 0) = false := decide_eq_false g1
                    by_cases g2 : 39 < x
                    · have g2d : decide (39 < x) = true := decide_eq_true g2
                      obtain rfl : q = false := by
                        rw [HQ.out]
                        refine ok_bad xs (k - 1) (by have := HL.out; omega) ?_
                        rw [show k - 1 + 1 = k from by omega, ← Hx.out, ← HX0.out, ← HM.out]; omega
                      clear g1 g2
                      go_wp2_with fail
                      go_ret
                      exact ⟨rfl, rfl⟩
                    · have g2d : decide (39 < x) = false := decide_eq_false g2
                      have hA2 : ∀ j, j + 1 < k + 1 → 0 ≤ xs.getD (j + 1) 0 ∧ xs.getD (j + 1) 0 ≤ mst x0 j := fun j hj => by
                        by_cases h9 : j = k - 1
                        · rw [h9, ← HM.out, show k - 1 + 1 = k from by omega, ← Hx.out]; omega
                        · exact HA.out j (by omega)
                      have HA2 := Lib.hid hA2
                      clear hA2
                      clear g1 g2
                      go_wp2_with fail
                      go_round
                      case rel => exact ⟨k + 1, by omega, by omega, by go_num, HA2⟩
                      case measure => simp [intOf]; omega
              · have t6 : ((k : Int) == 1) = false := by rw [beq_eq_false_iff_ne]; omega
                have HM : Hid ((2147483647 : Int) = mst x0 (k - 1)) := Lib.hid (by unfold mst; rw [if_neg (by omega)])
                clear hM hk0
                by_cases g1 : x < 0
                · have g1d : decide (x < 0) = true := decide_eq_true g1
                  obtain rfl : q = false := by
                    rw [HQ.out]
                    refine ok_bad xs (k - 1) (by have := HL.out; omega) ?_
                    rw [show k - 1 + 1 = k from by omega, ← Hx.out]; omega
                  clear g1
                  go_wp2_with fail
                  go_ret
                  exact ⟨rfl, rfl⟩
                · have g1d : decide (x < 0) = false := decide_eq_false g1
                  by_cases g2 : 2147483647 < x
                  · have g2d : decide (2147483647 < x) = true := decide_eq_true g2
                    obtain rfl : q = false := by
                      rw [HQ.out]
                      refine ok_bad xs (k - 1) (by have := HL.out; omega) ?_
                      rw [show k - 1 + 1 = k from by omega, ← Hx.out, ← HX0.out, ← HM.out]; omega
                    clear g1 g2
                    go_wp2_with fail
                    go_ret
                    exact ⟨rfl, rfl⟩
                  · have g2d : decide (2147483647 < x) = false := decide_eq_false g2
                    have hA2 : ∀ j, j + 1 < k + 1 → 0 ≤ xs.getD (j + 1) 0 ∧ xs.getD (j + 1) 0 ≤ mst x0 j := fun j hj => by
                      by_cases h9 : j = k - 1
                      · rw [h9, ← HM.out, show k - 1 + 1 = k from by omega, ← Hx.out]; omega
                      · exact HA.out j (by omega)
                    have HA2 := Lib.hid hA2
                    clear hA2
                    clear g1 g2
                    go_wp2_with fail
                    go_round
                    case rel => exact ⟨k + 1, by omega, by omega, by go_num, HA2⟩
                    case measure => simp [intOf]; omega
            · have hd1 : decide (k < n) = false := decide_eq_false (by omega)
              obtain rfl : q = true := by
                rw [HQ.out]
                refine ok_all xs (by have := HL.out; omega) (by have := HL.out; omega) (by rw [← HX0.out]; exact i0) (by rw [← HX0.out]; exact i2) fun j hj => ?_
                rw [← HX0.out]
                exact HA.out j (by have := HL.out; omega)
              go_wp2_with fail
              go_ret
              exact ⟨rfl, rfl⟩
theorem encN_snoc (l : List Nat) (n : Nat) : encN (l ++ [n]) = encN l ++ num n := by simp [encN]
theorem encN_len (l : List Nat) (h : ∀ n ∈ l, n ≤ 2147483647) : (encN l).length ≤ 5 * l.length := by
  induction l with
  | nil => simp [encN]
  | cons n l ih =>
    rw [show encN (n :: l) = num n ++ encN l from rfl, List.length_append, List.length_cons]
    have := ih fun m hm => h m (by simp [hm])
    have := num_len n (by have := h n (by simp); omega)
    omega
/-- what the first k arcs, two at least, are as contents -/
def encU (xs : List Int) (k : Nat) : List UInt8 := num (40 * xs.getD 0 0 + xs.getD 1 0).toNat ++ encN (((xs.drop 2).take k).map Int.toNat)
theorem encU_0 (xs : List Int) : encU xs 0 = num (40 * xs.getD 0 0 + xs.getD 1 0).toNat := by simp [encU, encN]
theorem encU_succ (xs : List Int) (k : Nat) (h : k + 2 < xs.length) : encU xs (k + 1) = encU xs k ++ num (xs.getD (k + 2) 0).toNat := by
  unfold encU
  rw [List.take_succ_eq_append_getElem (by rw [List.length_drop]; omega), List.map_append, List.map_singleton, encN_snoc, List.append_assoc]
  congr 4
  rw [List.getElem_drop]
  simp [List.getD, List.getElem?_eq_getElem h, Nat.add_comm]
theorem encU_all (xs : List Int) (h : Ok xs) (k : Nat) (hk : xs.length = k + 2) : encU xs k = enc xs := by
  match xs, h with
  | a :: b :: r, h =>
    simp only [List.length_cons] at hk
    unfold encU enc
    simp only [List.getD_cons_zero, List.getD_cons_succ, List.drop_succ_cons, List.drop_zero]
    rw [List.take_of_length_le (by omega)]
theorem encU_len (xs : List Int) (h : Ok xs) (k : Nat) : (encU xs k).length ≤ 200 := by
  match xs, h with
  | a :: b :: r, ⟨hr, ha, ha2, hb, hb2, hx⟩ =>
    unfold encU
    simp only [List.getD_cons_zero, List.getD_cons_succ, List.drop_succ_cons, List.drop_zero]
    rw [List.length_append]
    have h1 := num_len (40 * a + b).toNat (by omega)
    have h2 := encN_len ((r.take k).map Int.toNat) (fun n hn => by
      obtain ⟨x, hx2, rfl⟩ := List.mem_map.1 hn
      have := hx x (List.mem_of_mem_take hx2); omega)
    rw [List.length_map, List.length_take] at h2
    omega
theorem ok_at (xs : List Int) (h : Ok xs) (k : Nat) (hk : k < xs.length) : 0 ≤ xs.getD k 0 ∧ xs.getD k 0 ≤ 2147483647 := by
  obtain ⟨h1, h2, h3, h4, h5⟩ := (ok_iff xs).1 h
  cases k with
  | zero => omega
  | succ k =>
    have := h5 k hk
    unfold mst at this
    split at this <;> (try split at this) <;> omega
end Oid
end Go.Proofs.YtpakifiphdlkoaaDoor

/- Package oid and its reference: Encode in the reference, Text in both. -/
namespace Go.Proofs.YtpakifiphdlkoaaDoor
open Go.RowKit
namespace Oid

/-- the text of arcs -/
def txtN (l : List Int) : List UInt8 := l.flatMap fun x => 46 :: Dig.numS x
def txtU (xs : List Int) (k : Nat) : List UInt8 := Dig.numS (xs.getD 0 0) ++ txtN ((xs.drop 1).take k)
def txt : List Int → List UInt8
  | [] => []
  | a :: r => Dig.numS a ++ txtN r
theorem txtN_snoc (l : List Int) (x : Int) : txtN (l ++ [x]) = txtN l ++ 46 :: Dig.numS x := by simp [txtN]
theorem txtU_0 (xs : List Int) : txtU xs 0 = Dig.numS (xs.getD 0 0) := by simp [txtU, txtN]
theorem txtU_succ (xs : List Int) (k : Nat) (h : k + 1 < xs.length) : txtU xs (k + 1) = txtU xs k ++ 46 :: Dig.numS (xs.getD (k + 1) 0) := by
  unfold txtU
  rw [List.take_succ_eq_append_getElem (by rw [List.length_drop]; omega), txtN_snoc, List.append_assoc]
  congr 4
  rw [List.getElem_drop]
  simp [List.getD, List.getElem?_eq_getElem h, Nat.add_comm]
theorem txtU_all (xs : List Int) (k : Nat) (hk : xs.length = k + 1) : txtU xs k = txt xs := by
  match xs, hk with
  | a :: r, hk =>
    simp only [List.length_cons] at hk
    unfold txtU txt
    simp only [List.getD_cons_zero, List.drop_succ_cons, List.drop_zero]
    rw [List.take_of_length_le (by omega)]
theorem numS_len (x : Int) (h : -9223372036854775808 ≤ x ∧ x ≤ 9223372036854775807) : (Dig.numS x).length ≤ 21 := by
  have hlt : x.natAbs < 10 ^ 20 := Nat.lt_of_le_of_lt (show x.natAbs ≤ 9223372036854775808 by omega) (by decide)
  have := (RefDig.digs_spec 20 x.natAbs (by decide) hlt).2.1
  unfold Dig.numS
  split <;> simp <;> omega
theorem txtN_len (l : List Int) (h : ∀ x ∈ l, -9223372036854775808 ≤ x ∧ x ≤ 9223372036854775807) : (txtN l).length ≤ 22 * l.length := by
  induction l with
  | nil => simp [txtN]
  | cons x l ih =>
    rw [show txtN (x :: l) = (46 :: Dig.numS x) ++ txtN l from rfl, List.length_append, List.length_cons, List.length_cons]
    have := ih fun m hm => h m (by simp [hm])
    have := numS_len x (h x (by simp))
    omega
theorem ok_mem (xs : List Int) (h : Ok xs) (x : Int) (hx : x ∈ xs) : 0 ≤ x ∧ x ≤ 2147483647 := by
  obtain ⟨i, hi, rfl⟩ := List.getElem_of_mem hx
  have := ok_at xs h i hi
  simpa [List.getD, hi] using this
theorem txtU_len (xs : List Int) (h : Ok xs) (k : Nat) (hk : k ≤ 20) : (txtU xs k).length ≤ 500 := by
  unfold txtU
  rw [List.length_append]
  have h2 := ((ok_iff xs).1 h).1
  have h0 := ok_at xs h 0 (by omega)
  have h1 := numS_len (xs.getD 0 0) (by omega)
  have h3 := txtN_len ((xs.drop 1).take k) (fun x hx => by
    have := ok_mem xs h x (List.mem_of_mem_drop (List.mem_of_mem_take hx)); omega)
  rw [List.length_take] at h3
  omega
theorem num_int (x : Int) (h : 0 ≤ x ∧ x ≤ 2147483647) (X : ByteArray) (hX : X = bs (Dig.numS x)) : Mak 76 #[.int .i64 x] (.string X) := by
  rw [hX]; exact Dig.num_mak x (by omega)
theorem rnum_int (x : Int) (h : 0 ≤ x ∧ x ≤ 2147483647) (X : ByteArray) (hX : X = bs (Dig.numS x)) : Mak 89 #[.int .i64 x] (.string X) := RefDig.num_any x (by omega) X hX

set_option maxRecDepth 100000 in
theorem text_no (w : World) (v : Value) (xs : List Int) (hv : IntsS w v xs) (hk : ¬ Ok xs) :
    Calls Tryd.prog 54 #[v] w fun e w' => e = .returned (.string ⟨#[]⟩) ∧ w = w' := by
  have c1 := right_any w v xs hv false (decide_eq_false hk).symm
  obtain ⟨A, c, rfl, _, _⟩ := hv.slice
  clear hk hv
  go_enter Tryd.func54, Tryd.ntmps54
  go_wp2_with fail
  refine c1.mono ?_
  rintro e w1 ⟨rfl, rfl⟩
  go_wp2_with fail
  go_ret
  exact ⟨rfl, rfl⟩
set_option maxRecDepth 100000 in
theorem rtext_no (w : World) (v : Value) (xs : List Int) (hv : IntsS w v xs) (hk : ¬ Ok xs) :
    Calls Tryd.prog 66 #[v] w fun e w' => e = .returned (.string ⟨#[]⟩) ∧ w = w' := by
  have c1 := rright_any w v xs hv false (decide_eq_false hk).symm
  obtain ⟨A, c, rfl, _, _⟩ := hv.slice
  clear hk hv
  go_enter Tryd.func66, Tryd.ntmps66
  go_wp2_with fail
  refine c1.mono ?_
  rintro e w1 ⟨rfl, rfl⟩
  go_wp2_with fail
  go_ret
  exact ⟨rfl, rfl⟩

set_option maxRecDepth 100000 in
set_option maxHeartbeats 4000000 in
theorem text_yes (w : World) (v : Value) (xs : List Int) (hv : IntsS w v xs) (hk : Ok xs) (X : ByteArray) (hX : X = bs (txt xs)) :
    Calls Tryd.prog 54 #[v] w fun e w' => e = .returned (.string X) ∧ Since w w' := by
  have H0 := Lib.hid (Since.refl w)
  have c1 := right_any w v xs hv true (decide_eq_true hk).symm
  have hiff := (ok_iff xs).1 hk
  obtain ⟨b, o, c, rfl, hc1, hc2, hlt, hcell⟩ := hv.form (by omega)
  obtain ⟨n, hn⟩ : ∃ n, xs.length = n := ⟨_, rfl⟩
  obtain ⟨m, hm⟩ : ∃ m, n = 1 + m := ⟨n - 1, by omega⟩
  obtain ⟨d, hd⟩ : ∃ d, c = 1 + d := ⟨c - 1, by omega⟩
  have hv2 : SlR w 1 (.slice (some ⟨b, o, none⟩) n c) n (xs.map (Value.int .i64)) := by rw [← hn]; exact hv
  rw [hn] at hcell hc1 c1 ⊢
  obtain ⟨A', hT, hrun⟩ := hv2.tail Tryd.underlying22 size_i 1 m d hm hd
  have hrun0 : ∀ W, (Instr.slice 22 (.slice (some ⟨b, o, none⟩) n c) (some (.int .i64 1)) none none).run Tryd.prog W = .ok (.slice A' m d) W := hrun
  have k0 := hcell 0 (by omega)
  rw [Nat.add_zero] at k0
  have b0 := ok_at xs hk 0 (by omega)
  obtain ⟨S, hS⟩ : ∃ S, S = bs (txtU xs 0) := ⟨_, rfl⟩
  obtain ⟨p, hp⟩ : ∃ p, p = xs.getD 0 0 := ⟨_, rfl⟩
  have c2 := num_int p (by rw [hp]; exact b0) S (by rw [hS, txtU_0, hp])
  rw [← hp] at k0 b0
  have HT := Lib.hid hT
  have HX : Hid (X = bs (txtU xs m)) := Lib.hid (by rw [hX, txtU_all xs m (by omega)])
  have HK := Lib.hid hk
  have HS := Lib.hid hS
  have HN : Hid (xs.length = 1 + m) := Lib.hid (by omega)
  have i8 : (0 : Int) < (n : Int) := by omega
  have i7 : 0 < n ∧ 1 < n := by omega
  have hm9 : m ≤ 19 := by omega
  have hS9 : S.size ≤ 500 := by rw [hS, size_bs]; exact txtU_len xs hk 0 (by omega)
  clear hk hv hv2 hT hrun hcell hc1 hc2 hX hp hS hiff hn hm hd b0
  have H_c1 := Lib.hid c1
  clear c1
  go_enter Tryd.func54, Tryd.ntmps54
  go_wp2_with fail
  refine H_c1.out.mono ?_
  rintro e w1 ⟨rfl, rfl⟩
  go_wp2_with fail
  refine c2.calls H0.out ?_
  intro w2 h2
  have H2 := Lib.hid h2
  clear h2 c2
  go_wp2_with fail
  go_loopw [3, 16] (fun s i wr => ∃ (k : Nat) (O : ByteArray), k ≤ m ∧ i = .int .i64 (k : Int) ∧ s = .string O ∧ O.size ≤ 500 ∧ Hid (O = bs (txtU xs k)) ∧ Hid (Since w wr)) (fun _ i _ => m - (intOf i).toNat)
  case atStart => exact ⟨0, S, by omega, rfl, rfl, hS9, HS, H2⟩
  case round =>
    obtain ⟨k, O, hk, rfl, rfl, hO9, HO, HSW⟩ := hrel
    by_cases hlt2 : k < m
    · obtain ⟨b', o', c', hA', _, _, hlt', hc'⟩ := HT.out.form (by omega)
      obtain ⟨rfl, -, -⟩ := Value.slice.inj hA'
      clear hA'
      have hck := hc' k (.int .i64 (xs.getD (k + 1) 0)) (by
        rw [List.getElem?_drop, List.getElem?_map, Nat.add_comm 1 k]
        simp [List.getD, show k + 1 < xs.length from by have := HN.out; omega])
      have hck2 := (HSW.out.below.cell (p := ⟨b', o' + k, none⟩) hlt').trans hck
      have hb := ok_at xs HK.out (k + 1) (by have := HN.out; omega)
      have hU := txtU_succ xs k (by have := HN.out; omega)
      have hl9 := txtU_len xs HK.out (k + 1) (by omega)
      obtain ⟨x, hx⟩ : ∃ x, x = xs.getD (k + 1) 0 := ⟨_, rfl⟩
      rw [← hx] at hck2 hb hU
      obtain ⟨P, hP⟩ : ∃ P, P = bs (Dig.numS x) := ⟨_, rfl⟩
      have c3 := num_int x hb P hP
      obtain ⟨P2, hP2⟩ : ∃ P2, ⟨#[46]⟩ ++ P = P2 := ⟨_, rfl⟩
      have hU2 : O ++ P2 = bs (txtU xs (k + 1)) := by
        apply ba_ext
        rw [app_list, ← hP2, app_list, HO.out, hP, list_bs, list_bs, list_bs, hU]; rfl
      have hP9 : O.size + P2.size ≤ 500 := by
        have h9 : (O ++ P2).size ≤ 500 := by rw [hU2, size_bs]; exact hl9
        rwa [ByteArray.size_append] at h9
      have hP8 : P2.size = 1 + P.size := by rw [← hP2, ByteArray.size_append]; rfl
      have hsz : ¬ 9223372036854775807 < O.size + P2.size := by omega
      have hsz2 : ¬ 9223372036854775807 < 1 + P.size := by omega
      have hO2s : (O ++ P2).size ≤ 500 := by rw [ByteArray.size_append]; exact hP9
      obtain ⟨O2, hO2⟩ : ∃ O2, O ++ P2 = O2 := ⟨_, rfl⟩
      rw [hO2] at hU2 hO2s
      clear hc' hck hx hU hl9 hP hb hP8
      have HU2 := Lib.hid hU2
      clear hU2
      go_wp2_with fail
      refine c3.calls HSW.out ?_
      intro w3 h3
      have H3 := Lib.hid h3
      clear h3
      go_wp2_with fail
      go_roundw
      case rel => exact ⟨k + 1, O2, by omega, by go_num, rfl, hO2s, HU2, H3⟩
      case measure => simp [intOf]; omega
    · obtain rfl : k = m := by omega
      obtain rfl : X = O := by rw [HX.out, HO.out]
      go_wp2_with fail
      go_ret
      exact ⟨rfl, HSW.out⟩
set_option maxRecDepth 100000 in
set_option maxHeartbeats 4000000 in
theorem rtext_yes (w : World) (v : Value) (xs : List Int) (hv : IntsS w v xs) (hk : Ok xs) (X : ByteArray) (hX : X = bs (txt xs)) :
    Calls Tryd.prog 66 #[v] w fun e w' => e = .returned (.string X) ∧ Since w w' := by
  have H0 := Lib.hid (Since.refl w)
  have c1 := rright_any w v xs hv true (decide_eq_true hk).symm
  have hiff := (ok_iff xs).1 hk
  obtain ⟨b, o, c, rfl, hc1, hc2, hlt, hcell⟩ := hv.form (by omega)
  obtain ⟨n, hn⟩ : ∃ n, xs.length = n := ⟨_, rfl⟩
  obtain ⟨m, hm⟩ : ∃ m, n = 1 + m := ⟨n - 1, by omega⟩
  rw [hn] at hcell hc1 c1 ⊢
  have k0 := hcell 0 (by omega)
  rw [Nat.add_zero] at k0
  have b0 := ok_at xs hk 0 (by omega)
  obtain ⟨S, hS⟩ : ∃ S, S = bs (txtU xs 0) := ⟨_, rfl⟩
  obtain ⟨p, hp⟩ : ∃ p, p = xs.getD 0 0 := ⟨_, rfl⟩
  have c2 := rnum_int p (by rw [hp]; exact b0) S (by rw [hS, txtU_0, hp])
  rw [← hp] at k0 b0
  have HX : Hid (X = bs (txtU xs m)) := Lib.hid (by rw [hX, txtU_all xs m (by omega)])
  have HK := Lib.hid hk
  have HS : Hid (S = bs (txtU xs (1 - 1))) := Lib.hid hS
  have HN : Hid (xs.length = n) := Lib.hid hn
  have HM : Hid (n = 1 + m) := Lib.hid hm
  have HC := Lib.hid hcell
  have i8 : (0 : Int) < (n : Int) := by omega
  have i7 : 0 < n ∧ 1 < n := by omega
  have hm9 : n ≤ 20 := by omega
  have hS9 : S.size ≤ 500 := by rw [hS, size_bs]; exact txtU_len xs hk 0 (by omega)
  clear hk hv hcell hc1 hc2 hX hp hS hiff hn hm b0
  have H_c1 := Lib.hid c1
  clear c1
  go_enter Tryd.func66, Tryd.ntmps66
  go_wp2_with fail
  refine H_c1.out.mono ?_
  rintro e w1 ⟨rfl, rfl⟩
  go_wp2_with fail
  refine c2.calls H0.out ?_
  intro w2 h2
  have H2 := Lib.hid h2
  clear h2 c2
  go_wp2_with fail
  go_loopw [3, 4] (fun s i wr => ∃ (k : Nat) (O : ByteArray), 1 ≤ k ∧ k ≤ n ∧ i = .int .i64 (k : Int) ∧ s = .string O ∧ O.size ≤ 500 ∧ Hid (O = bs (txtU xs (k - 1))) ∧ Hid (Since w wr)) (fun _ i _ => n - (intOf i).toNat)
  case atStart => exact ⟨1, S, by omega, by omega, rfl, rfl, hS9, HS, H2⟩
  case round =>
    obtain ⟨k, O, hk1, hk, rfl, rfl, hO9, HO, HSW⟩ := hrel
    by_cases hlt2 : k < n
    · have hck2 := (HSW.out.below.cell (p := ⟨b, o + k, none⟩) hlt).trans (HC.out k hlt2)
      have hb := ok_at xs HK.out k (by have := HN.out; omega)
      have hU := txtU_succ xs (k - 1) (by have := HN.out; omega)
      have hl9 := txtU_len xs HK.out (k - 1 + 1) (by omega)
      rw [show k - 1 + 1 = k from by omega] at hU
      obtain ⟨x, hx⟩ : ∃ x, x = xs.getD k 0 := ⟨_, rfl⟩
      rw [← hx] at hck2 hb hU
      obtain ⟨P, hP⟩ : ∃ P, P = bs (Dig.numS x) := ⟨_, rfl⟩
      have c3 := rnum_int x hb P hP
      obtain ⟨P2, hP2⟩ : ∃ P2, O ++ ⟨#[46]⟩ = P2 := ⟨_, rfl⟩
      have hU2 : P2 ++ P = bs (txtU xs (k + 1 - 1)) := by
        apply ba_ext
        rw [app_list, ← hP2, app_list, HO.out, hP, list_bs, list_bs, list_bs, Nat.add_sub_cancel, hU, List.append_assoc]; rfl
      have hP9 : P2.size + P.size ≤ 500 := by
        have h9 : (P2 ++ P).size ≤ 500 := by rw [hU2, size_bs]; rw [show k - 1 + 1 = k from by omega] at hl9; exact hl9
        rwa [ByteArray.size_append] at h9
      have hP8 : P2.size = O.size + 1 := by rw [← hP2, ByteArray.size_append]; rfl
      have hsz : ¬ 9223372036854775807 < P2.size + P.size := by omega
      have hsz2 : ¬ 9223372036854775807 < O.size + 1 := by omega
      have hO2s : (P2 ++ P).size ≤ 500 := by rw [ByteArray.size_append]; exact hP9
      obtain ⟨O2, hO2⟩ : ∃ O2, P2 ++ P = O2 := ⟨_, rfl⟩
      rw [hO2] at hU2 hO2s
      clear hx hU hl9 hP hb hP8
      have HU2 := Lib.hid hU2
      clear hU2
      go_wp2_with fail
      refine c3.calls HSW.out ?_
      intro w3 h3
      have H3 := Lib.hid h3
      clear h3
      go_wp2_with fail
      go_roundw
      case rel => exact ⟨k + 1, O2, by omega, by omega, by go_num, rfl, hO2s, HU2, H3⟩
      case measure => simp [intOf]; omega
    · obtain rfl : X = O := by rw [HX.out, HO.out, show k - 1 = m from by have := HM.out; omega]
      go_wp2_with fail
      go_ret
      exact ⟨rfl, HSW.out⟩
end Oid
end Go.Proofs.YtpakifiphdlkoaaDoor

/- The reference of oid: Decode. -/
namespace Go.Proofs.YtpakifiphdlkoaaDoor
open Go.RowKit

/-- a call that makes a slice of numbers, and tells whether -/
def MkI (f : Nat) (args : Array Value) (xs : List Int) (b : Bool) : Prop := ∀ w, Calls Tryd.prog f args w fun e w' => ∃ v, e = .returned (.tuple #[v, .bool b]) ∧ IntsS w' v xs ∧ Below w.heap.size w w'
set_option maxRecDepth 100000 in
theorem MkI.calls {f : Nat} {args : Array Value} {xs : List Int} {b : Bool} (h : MkI f args xs b) {W0 w : World} (hs : Since W0 w) {R : Ending → World → Prop} (k : ∀ v w', IntsS w' v xs → Below w.heap.size w w' → Since W0 w' → R (.returned (.tuple #[v, .bool b])) w') : Calls Tryd.prog f args w R :=
  (h w).mono fun _ _ ⟨v, he, ho, hb⟩ => by subst he; exact k v _ ho hb (hs.step hb)
set_option maxRecDepth 100000 in
theorem MkI.calls0 {f : Nat} {args : Array Value} {xs : List Int} {b : Bool} (h : MkI f args xs b) {w : World} {R : Ending → World → Prop} (k : ∀ v w', IntsS w' v xs → Since w w' → R (.returned (.tuple #[v, .bool b])) w') : Calls Tryd.prog f args w R :=
  (h w).mono fun _ _ ⟨v, he, ho, hb⟩ => by subst he; exact k v _ ho hb
set_option maxRecDepth 100000 in
theorem elemI : ElemIs 22 3 (.int .i64 0) 1 8 := ⟨Tryd.underlying22, by kernel_rfl, rfl, by decide⟩
def IntsO (w0 w : World) (v : Value) (n : Nat) (xs : List Int) : Prop := w.ownsRow w0.heap.size 3 1 v n (xs.map (Value.int .i64))
theorem IntsO.read {w0 w : World} {v : Value} {n : Nat} {xs : List Int} (h : IntsO w0 w v n xs) : IntsS w v xs := by
  have hn : xs.length = n := by have := h.1; simpa using this
  unfold IntsS
  rw [hn]
  exact SlR.own h
theorem IntsO.since {w0 w w' : World} {v : Value} {n : Nat} {xs : List Int} (h : IntsO w0 w v n xs) (hs : Since w w') : IntsO w0 w' v n xs := by
  refine h.kept (row := none) ⟨hs.os, hs.tape, hs.output, hs.size, fun k hk _ => hs.block k hk⟩ ?_
  cases hv : v.ownBlock with
  | none => exact Or.inl rfl
  | some k => exact Or.inr (by simp)
theorem IntsO.len {w0 w : World} {v : Value} {n : Nat} {xs : List Int} (h : IntsO w0 w v n xs) : xs.length = n := by have := h.1; simpa using this
theorem IntsO.slice {w0 w : World} {v : Value} {n : Nat} {xs : List Int} (h : IntsO w0 w v n xs) : ∃ A c, v = .slice A n c := by
  rcases h.2 with ⟨rfl, rfl⟩ | ⟨g, cap, cur, rfl, _⟩
  · exact ⟨_, _, rfl⟩
  · exact ⟨_, _, rfl⟩
namespace Oid

theorem rd_no (c : List UInt8) (h : rd c 0 [] = none) : decL c = [] ∧ decB c = false := by
  have hb : decB c = false := by
    cases hd : decB c with
    | false => rfl
    | true =>
      obtain ⟨h1, h2⟩ := (dec_iff c (decL c)).1 ⟨hd, rfl⟩
      have := rd_enc _ h1
      rw [h2, h] at this
      cases this
  exact ⟨dec_false c hb, hb⟩
theorem rd_some (c : List UInt8) (l : List Int) (h : rd c 0 [] = some l) (hn : ¬ (Ok l ∧ enc l = c)) : decL c = [] ∧ decB c = false := by
  have hb : decB c = false := by
    cases hd : decB c with
    | false => rfl
    | true =>
      obtain ⟨h1, h2⟩ := (dec_iff c (decL c)).1 ⟨hd, rfl⟩
      have := rd_enc _ h1
      rw [h2, h] at this
      have := Option.some.inj this
      subst this
      exact absurd ⟨h1, h2⟩ hn
  exact ⟨dec_false c hb, hb⟩
theorem drop_at (c : ByteArray) (k : Nat) (h : k < c.size) : c.data.toList.drop k = c[k] :: c.data.toList.drop (k + 1) := by
  rw [List.drop_eq_getElem_cons (by simpa using h)]; rfl
theorem drop_end (c : ByteArray) (k : Nat) (h : c.size ≤ k) : c.data.toList.drop k = [] := List.drop_eq_nil_of_le (by simpa using h)

end Oid
end Go.Proofs.YtpakifiphdlkoaaDoor

/- Package oid: names read out of texts: plain mathematics; Unnum; the reference's Parse. -/
namespace Go.Proofs.YtpakifiphdlkoaaDoor
open Go.RowKit
namespace Oid
open Dig

def unB (l : List UInt8) : Bool := decide (numS (unV l) = l)
def unN (l : List UInt8) : Int := if unB l then unV l else 0
theorem bs_eq (m : List UInt8) (s : ByteArray) : bs m = s ↔ m = s.data.toList := ⟨fun h => by rw [← h, list_bs], fun h => by rw [h]; exact bs_list s⟩
theorem numS_20 (x : Int) (h : -9223372036854775808 ≤ x ∧ x ≤ 9223372036854775807) : (numS x).length ≤ 20 := by
  have hlt : x.natAbs < 10 ^ 19 := Nat.lt_of_le_of_lt (show x.natAbs ≤ 9223372036854775808 by omega) (by decide)
  have h1 := (RefDig.digs_spec 19 x.natAbs (by decide) hlt).2.1
  have h2 := RefDig.digs_fuel 19 x.natAbs hlt (by decide)
  unfold numS
  rw [← h2]
  split <;> simp <;> omega
theorem numS_ne (x : Int) : numS x ≠ [] := by
  unfold numS
  split
  · simp
  · exact (digs_head 20 _ (by decide)).1
theorem unB_iff (s : ByteArray) : decide (bs (numS (unV s.data.toList)) = s) = unB s.data.toList := by
  unfold unB
  exact decide_eq_decide.2 (bs_eq _ _)
theorem unN_if (s : ByteArray) : (if bs (numS (unV s.data.toList)) = s then unV s.data.toList else 0) = unN s.data.toList := by
  unfold unN unB
  by_cases h : numS (unV s.data.toList) = s.data.toList
  · rw [if_pos ((bs_eq _ _).2 h), if_pos (by simpa using h)]
  · rw [if_neg (fun h2 => h ((bs_eq _ _).1 h2)), if_neg (by simpa using h)]
theorem unB_long (l : List UInt8) (h : 20 < l.length) : unB l = false := by
  unfold unB
  refine decide_eq_false (fun h2 => ?_)
  have := numS_20 (unV l) (unV_bounds l)
  rw [h2] at this; omega
theorem unB_nil : unB [] = false := decide_eq_false (numS_ne _)
theorem unN_false (l : List UInt8) (h : unB l = false) : unN l = 0 := by unfold unN; rw [h]; rfl
theorem unN_bounds (l : List UInt8) : -9223372036854775808 ≤ unN l ∧ unN l ≤ 9223372036854775807 := by
  unfold unN
  split
  · exact unV_bounds l
  · omega
theorem unnum_any (s : ByteArray) (hm : s.size ≤ 140737488355328) (n : Int) (b : Bool) (hn : n = unN s.data.toList) (hb : b = unB s.data.toList) : Mak 78 #[.string s] (.tuple #[.int .i64 n, .bool b]) := by
  intro w
  by_cases h : 20 < s.size
  · have h2 := unB_long s.data.toList h
    rw [hn, hb, unN_false _ h2, h2]
    exact unnum_long s w hm h
  · exact unnum_short s w (by omega) _ n b rfl (by rw [hb, unB_iff]) (by rw [hn, unN_if])
theorem runnum_any (s : ByteArray) (hm : s.size ≤ 140737488355328) (n : Int) (b : Bool) (hn : n = unN s.data.toList) (hb : b = unB s.data.toList) : Mak 90 #[.string s] (.tuple #[.int .i64 n, .bool b]) := by
  have hv : n = if b = true then unV s.data.toList else 0 := by rw [hn, hb, unN]
  by_cases h : s.size < 1 ∨ 20 < s.size
  · have h2 : unB s.data.toList = false := by
      rcases h with h | h
      · have : s.data.toList = [] := List.eq_nil_of_length_eq_zero (by have h9 : s.size = s.data.toList.length := rfl; omega)
        rw [this]; exact unB_nil
      · exact unB_long _ h
    rw [hn, hb, unN_false _ h2, h2]
    exact (RefDig.unnum_out s h hm).mak
  · by_cases h45 : (s[0]'(by omega)).toNat = 45
    · exact RefDig.unnum_neg s (by omega) (by omega) h45 _ n b rfl (by rw [hb, unB_iff]) hv
    · exact RefDig.unnum_pos s (by omega) (by omega) h45 _ n b rfl (by rw [hb, unB_iff]) hv

/-- the parts between points -/
def spl (cur : List UInt8) : List UInt8 → List (List UInt8)
  | [] => [cur]
  | c :: cs => if c = 46 then cur :: spl [] cs else spl (cur ++ [c]) cs
/-- the arcs that parts are -/
def pp : List (List UInt8) → List Int → Option (List Int)
  | [], l => some l
  | p :: ps, l => if unB p = false ∨ l.length = 20 then none else pp ps (l ++ [unN p])
def parL (t : List UInt8) : List Int := ((pp (spl [] t) []).filter fun l => decide (Ok l)).getD []
def parB (t : List UInt8) : Bool := ((pp (spl [] t) []).filter fun l => decide (Ok l)).isSome
theorem par_some (c : List UInt8) (m : List Int) (h : pp (spl [] c) [] = some m) (hk : Ok m) : parL c = m ∧ parB c = true := by
  unfold parL parB; rw [h]; simp [hk, Option.filter]
theorem par_bad (c : List UInt8) (m : List Int) (h : pp (spl [] c) [] = some m) (hk : ¬ Ok m) : parL c = [] ∧ parB c = false := by
  unfold parL parB; rw [h]; simp [hk, Option.filter]
theorem par_none (c : List UInt8) (h : pp (spl [] c) [] = none) : parL c = [] ∧ parB c = false := by
  unfold parL parB; rw [h]; simp [Option.filter]
def join : List (List UInt8) → List UInt8
  | [] => []
  | p :: ps => p ++ ps.flatMap (46 :: ·)
theorem spl_ne (c : List UInt8) : ∀ cur, spl cur c ≠ [] := by
  induction c with
  | nil => intro cur; simp [spl]
  | cons c cs ih => intro cur; unfold spl; split; simp; exact ih _
theorem join_cons (p : List UInt8) (ps : List (List UInt8)) (h : ps ≠ []) : join (p :: ps) = p ++ 46 :: join ps := by
  cases ps with
  | nil => exact absurd rfl h
  | cons q qs => simp [join]
theorem join_spl (c : List UInt8) : ∀ cur, join (spl cur c) = cur ++ c := by
  induction c with
  | nil => intro cur; simp [spl, join]
  | cons c cs ih =>
    intro cur
    unfold spl
    by_cases h : c = 46
    · rw [if_pos h, join_cons _ _ (spl_ne _ _), ih, h]; rfl
    · rw [if_neg h, ih]; simp
theorem spl_app (m rest : List UInt8) (h : (46 : UInt8) ∉ m) : ∀ cur, spl cur (m ++ rest) = spl (cur ++ m) rest := by
  induction m with
  | nil => intro cur; simp
  | cons c m ih =>
    intro cur
    rw [List.cons_append]
    conv => lhs; unfold spl
    rw [if_neg (fun h2 => h (by rw [h2]; simp)), ih (fun h2 => h (by simp [h2]))]
    simp
theorem digs_46 (f : Nat) : ∀ M, (46 : UInt8) ∉ digs f M := by
  induction f with
  | zero => intro M; simp [digs]
  | succ f ih =>
    intro M
    have hd : ∀ d : Nat, d < 10 → (46 : UInt8) ≠ UInt8.ofNat (48 + d) := fun d h h2 => by
      have h3 := congrArg UInt8.toNat h2
      rw [UInt8.toNat_ofNat'] at h3
      have h4 : (46 : UInt8).toNat = 46 := rfl
      omega
    unfold digs
    split
    · rename_i h
      simpa using hd M h
    · simp only [List.mem_append, List.mem_singleton, not_or]
      exact ⟨ih _, hd _ (Nat.mod_lt _ (by decide))⟩
theorem numS_46 (x : Int) : (46 : UInt8) ∉ numS x := by
  unfold numS
  split
  · simp only [List.mem_cons, not_or]
    exact ⟨by decide, digs_46 _ _⟩
  · exact digs_46 _ _
theorem spl_txtN (r : List Int) : ∀ cur, spl cur (txtN r) = cur :: r.map numS := by
  induction r with
  | nil => intro cur; simp [txtN, spl]
  | cons x r ih =>
    intro cur
    rw [show txtN (x :: r) = 46 :: (numS x ++ txtN r) from rfl]
    unfold spl
    rw [if_pos rfl, spl_app _ _ (numS_46 x), List.nil_append, ih]
    rfl
theorem spl_txt (a : Int) (r : List Int) : spl [] (txt (a :: r)) = (a :: r).map numS := by
  rw [txt, spl_app _ _ (numS_46 a), List.nil_append, spl_txtN]; rfl
theorem unB_numS (x : Int) (h : -9223372036854775808 ≤ x ∧ x ≤ 9223372036854775807) : unB (numS x) = true ∧ unN (numS x) = x := by
  have h1 : unB (numS x) = true := by unfold unB; rw [unV_numS x h]; exact decide_eq_true rfl
  exact ⟨h1, by unfold unN; rw [h1, if_pos rfl, unV_numS x h]⟩
theorem pp_map (r : List Int) : ∀ l : List Int, (∀ x ∈ r, -9223372036854775808 ≤ x ∧ x ≤ 9223372036854775807) → l.length + r.length ≤ 20 → pp (r.map numS) l = some (l ++ r) := by
  induction r with
  | nil => intro l _ _; simp [pp]
  | cons x r ih =>
    intro l hx hl
    simp only [List.length_cons] at hl
    obtain ⟨h1, h2⟩ := unB_numS x (hx x (by simp))
    rw [List.map_cons]
    unfold pp
    rw [if_neg (by rw [h1]; simp; omega), h2, ih _ (fun y hy => hx y (by simp [hy])) (by simp; omega)]
    simp
theorem pp_txt (l : List Int) (h : Ok l) : pp (spl [] (txt l)) [] = some l := by
  match l, h with
  | a :: r, h =>
    rw [spl_txt, pp_map _ _ (fun x hx => by have := ok_mem _ h x hx; omega) (by have := ((ok_iff _).1 h).2.1; simpa using this)]
    rfl
theorem pp_some (ps : List (List UInt8)) : ∀ l m : List Int, pp ps l = some m → m = l ++ ps.map unN ∧ ∀ p ∈ ps, unB p = true := by
  induction ps with
  | nil => intro l m h; cases h; simp
  | cons p ps ih =>
    intro l m h
    unfold pp at h
    by_cases hb : unB p = false ∨ l.length = 20
    · rw [if_pos hb] at h; cases h
    · rw [if_neg hb] at h
      obtain ⟨h1, h2⟩ := ih _ _ h
      refine ⟨by rw [h1]; simp, fun q hq => ?_⟩
      simp only [List.mem_cons] at hq
      rcases hq with rfl | hq
      · have : ¬ unB q = false := fun h => hb (Or.inl h)
        simpa using this
      · exact h2 q hq
theorem numS_unN (p : List UInt8) (h : unB p = true) : numS (unN p) = p := by
  unfold unN
  rw [h, if_pos rfl]
  unfold unB at h
  exact of_decide_eq_true h
theorem txt_join (ps : List (List UInt8)) (h : ∀ p ∈ ps, unB p = true) : txt (ps.map unN) = join ps := by
  cases ps with
  | nil => rfl
  | cons p ps =>
    rw [List.map_cons, txt, join, numS_unN p (h p (by simp))]
    congr 1
    have h2 : ∀ q ∈ ps, unB q = true := fun q hq => h q (by simp [hq])
    clear h
    induction ps with
    | nil => rfl
    | cons q qs ih =>
      rw [List.map_cons, show txtN (unN q :: qs.map unN) = (46 :: numS (unN q)) ++ txtN (qs.map unN) from rfl, numS_unN q (h2 q (by simp)), ih (fun r hr => h2 r (by simp [hr]))]
      rfl
theorem par_txt (t : List UInt8) (m : List Int) (h : pp (spl [] t) [] = some m) : txt m = t := by
  obtain ⟨h1, h2⟩ := pp_some _ _ _ h
  rw [h1, List.nil_append, txt_join _ h2, join_spl]; rfl
theorem par_iff (t : List UInt8) (l : List Int) : (parB t = true ∧ parL t = l) ↔ Ok l ∧ txt l = t := by
  constructor
  · intro ⟨h1, h2⟩
    cases h : pp (spl [] t) [] with
    | none => rw [(par_none t h).2] at h1; cases h1
    | some m =>
      by_cases hk : Ok m
      · rw [(par_some t m h hk).1] at h2
        subst h2
        exact ⟨hk, par_txt t _ h⟩
      · rw [(par_bad t m h hk).2] at h1; cases h1
  · rintro ⟨h1, rfl⟩
    have := par_some _ l (pp_txt l h1) h1
    exact ⟨this.2, this.1⟩
theorem par_false (t : List UInt8) (h : parB t = false) : parL t = [] := by
  cases h2 : pp (spl [] t) [] with
  | none => exact (par_none t h2).1
  | some m =>
    by_cases hk : Ok m
    · rw [(par_some t m h2 hk).2] at h; cases h
    · exact (par_bad t m h2 hk).1
theorem spl_end (cur : List UInt8) : spl cur [] = [cur] := rfl
theorem spl_dot (cur cs : List UInt8) (c : UInt8) (h : c = 46) : spl cur (c :: cs) = cur :: spl [] cs := if_pos h
theorem spl_chr (cur cs : List UInt8) (c : UInt8) (h : c ≠ 46) : spl cur (c :: cs) = spl (cur ++ [c]) cs := if_neg h

set_option maxRecDepth 100000 in
set_option maxHeartbeats 4000000 in
theorem rparse_mk (c : ByteArray) (hm : c.size ≤ 1000000) (xs : List Int) (q : Bool) (hx : xs = parL c.data.toList) (hq : q = parB c.data.toList) : MkI 70 #[.string c] xs q := by
  intro w
  have H0 := Lib.hid (Since.refl w)
  have HXS := Lib.hid hx
  have HQ := Lib.hid hq
  obtain ⟨R, hR⟩ : ∃ R, R = pp (spl [] c.data.toList) [] := ⟨_, rfl⟩
  have HR := Lib.hid hR
  clear hx hq hR
  go_enter Tryd.func70, Tryd.ntmps70
  go_wp2_with fail
  go_loopw [4, 5, 6] (fun v o i wr => ∃ (k N : Nat) (l : List Int) (O : ByteArray), k ≤ c.size + 1 ∧ N ≤ 20 ∧ i = .int .i64 (k : Int) ∧ o = .string O ∧ O.size ≤ k ∧ Hid (IntsO w wr v N l) ∧ Hid (k ≤ c.size ∧ R = pp (spl O.data.toList (c.data.toList.drop k)) l ∨ k = c.size + 1 ∧ R = some l) ∧ Hid (Since w wr)) (fun _ _ i _ => c.size + 1 - (intOf i).toNat)
  case atStart => exact ⟨0, 0, [], ⟨#[]⟩, by omega, by omega, rfl, rfl, Nat.zero_le _, Lib.hid (World.ownsRow_nil _ _ _ _), Lib.hid (Or.inl ⟨Nat.zero_le _, HR.out⟩), H0⟩
  case round =>
    obtain ⟨k, N, l, O, hk, hN, rfl, rfl, hO9, HO, HC, HSW⟩ := hrel
    by_cases hle : k ≤ c.size
    · have HRR : Hid (R = pp (spl O.data.toList (c.data.toList.drop k)) l) := Lib.hid (by rcases HC.out with h | h; exact h.2; omega)
      clear HC
      by_cases hlt : k < c.size
      · by_cases h46 : c[k].toNat = 46
        · have h46b : c[k] = 46 := UInt8.toNat_inj.1 h46
          have t5 : ((c[k].toNat : Int) != 46) = false := by rw [bne_eq_false_iff_eq]; omega
          have hnx : spl O.data.toList (c.data.toList.drop k) = O.data.toList :: spl [] (c.data.toList.drop (k + 1)) := by rw [drop_at c k hlt, spl_dot _ _ _ h46b]
          clear h46 h46b
          obtain ⟨n, hn⟩ : ∃ n, n = unN O.data.toList := ⟨_, rfl⟩
          obtain ⟨b, hb⟩ : ∃ b, b = unB O.data.toList := ⟨_, rfl⟩
          have c1 := runnum_any O (by omega) n b hn hb
          have HF := Lib.hid (Since.refl wr)
          have hpp := HRR.out
          rw [hnx] at hpp
          conv at hpp => rhs; unfold pp
          obtain ⟨A, cap, hsl⟩ := HO.out.slice
          subst hsl
          have hNl := HO.out.len
          by_cases hbad : b = false ∨ N = 20
          · rw [if_pos (by rw [← hb, hNl]; exact hbad)] at hpp
            obtain ⟨z1, z2⟩ := par_none _ (HR.out.symm.trans hpp)
            obtain rfl : xs = [] := by rw [HXS.out, z1]
            obtain rfl : q = false := by rw [HQ.out, z2]
            clear hn hb hpp z1 z2 hNl
            cases b with
            | false =>
              clear hbad
              go_wp2_with fail
              refine c1.calls HF.out ?_
              intro w3 h3
              have H3 := Lib.hid h3
              clear h3
              go_wp2_with fail
              go_ret2
              exact ⟨_, rfl, IntsS.nil _, HSW.out.step H3.out⟩
            | true =>
              have hN20 : N = 20 := by rcases hbad with h | h; cases h; exact h
              have t9 : ((N : Int) == 20) = true := by rw [beq_iff_eq]; omega
              clear hbad hN20
              go_wp2_with fail
              refine c1.calls HF.out ?_
              intro w3 h3
              have H3 := Lib.hid h3
              clear h3
              go_wp2_with fail
              go_ret2
              exact ⟨_, rfl, IntsS.nil _, HSW.out.step H3.out⟩
          · rw [if_neg (by rw [← hb, hNl]; exact hbad), ← hn] at hpp
            obtain rfl : b = true := by cases b; exact absurd (Or.inl rfl) hbad; rfl
            have hN20 : N ≠ 20 := fun h => hbad (Or.inr h)
            have t9 : ((N : Int) == 20) = false := by rw [beq_eq_false_iff_ne]; omega
            have hN19 : N ≤ 19 := by omega
            have Hpp := Lib.hid hpp
            clear hpp
            clear hn hb hbad hNl hN20
            go_wp2_with fail
            refine (c1).calls HF.out ?_
            intro w3 h3
            have H3 := Lib.hid h3
            clear h3
            have HO3 := Lib.hid (HO.out.since H3.out)
            have HS3 := Lib.hid (HSW.out.step H3.out)
            go_wp2_with (at_builtin; refine app_one elemI rfl _ _ (by rfl) w w3 _ N _ (by rfl) HO3.out HS3.out _ (by rfl) rfl (by omega) (by decide) ?_)
            intro v4 w4 hO4 hS4
            have HO4 := Lib.hid hO4
            clear hO4
            have HS4 := Lib.hid hS4
            clear hS4
            go_wp2_with fail
            go_roundw
            case rel => exact ⟨k + 1, N + 1, _, ⟨#[]⟩, by omega, by omega, by go_num, rfl, Nat.zero_le _, Lib.hid (by unfold IntsO; rw [List.map_append]; exact HO4.out), Lib.hid (Or.inl ⟨by omega, Hpp.out⟩), HS4⟩
            case measure => (simp [intOf] <;> omega)
        · have h46b : c[k] ≠ 46 := fun h => h46 (by rw [h]; rfl)
          have t5 : ((c[k].toNat : Int) != 46) = true := by rw [bne_iff_ne]; omega
          have hst := HRR.out
          rw [drop_at c k hlt, spl_chr _ _ _ h46b] at hst
          obtain ⟨P, hP⟩ : ∃ P, c.extract k (k + 1) = P := ⟨_, rfl⟩
          have hPl : P.data.toList = [c[k]] := by
            rw [← hP, ext_list, drop_at c k hlt, Nat.add_sub_cancel_left]; rfl
          have hPs : P.size = 1 := by
            show P.data.toList.length = 1
            rw [hPl]; rfl
          obtain ⟨O2, hO2⟩ : ∃ O2, O ++ P = O2 := ⟨_, rfl⟩
          have hO2l : O2.data.toList = O.data.toList ++ [c[k]] := by rw [← hO2, app_list, hPl]
          have hO2s : O2.size ≤ k + 1 := by rw [← hO2, ByteArray.size_append]; omega
          rw [← hO2l] at hst
          have hsz : ¬ 9223372036854775807 < O.size + P.size := by omega
          clear h46 h46b hPl hO2l
          have Hst := Lib.hid hst
          clear hst
          have HPs := Lib.hid hPs
          clear hPs
          go_wp2_with fail
          go_roundw
          case rel => exact ⟨k + 1, N, l, O2, by omega, hN, by go_num, rfl, hO2s, HO, Lib.hid (Or.inl ⟨by omega, Hst.out⟩), HSW⟩
          case measure => simp [intOf]; omega
      · obtain rfl : k = c.size := by omega
        have hnx : spl O.data.toList (c.data.toList.drop c.size) = [O.data.toList] := by rw [drop_end c _ (Nat.le_refl _), spl_end]
        obtain ⟨n, hn⟩ : ∃ n, n = unN O.data.toList := ⟨_, rfl⟩
        obtain ⟨b, hb⟩ : ∃ b, b = unB O.data.toList := ⟨_, rfl⟩
        have c1 := runnum_any O (by omega) n b hn hb
        have HF := Lib.hid (Since.refl wr)
        have hpp := HRR.out
        rw [hnx] at hpp
        conv at hpp => rhs; unfold pp
        obtain ⟨A, cap, hsl⟩ := HO.out.slice
        subst hsl
        have hNl := HO.out.len
        by_cases hbad : b = false ∨ N = 20
        · rw [if_pos (by rw [← hb, hNl]; exact hbad)] at hpp
          obtain ⟨z1, z2⟩ := par_none _ (HR.out.symm.trans hpp)
          obtain rfl : xs = [] := by rw [HXS.out, z1]
          obtain rfl : q = false := by rw [HQ.out, z2]
          clear hn hb hpp z1 z2 hNl
          cases b with
          | false =>
            clear hbad
            go_wp2_with fail
            refine c1.calls HF.out ?_
            intro w3 h3
            have H3 := Lib.hid h3
            clear h3
            go_wp2_with fail
            go_ret2
            exact ⟨_, rfl, IntsS.nil _, HSW.out.step H3.out⟩
          | true =>
            have hN20 : N = 20 := by rcases hbad with h | h; cases h; exact h
            have t9 : ((N : Int) == 20) = true := by rw [beq_iff_eq]; omega
            clear hbad hN20
            go_wp2_with fail
            refine c1.calls HF.out ?_
            intro w3 h3
            have H3 := Lib.hid h3
            clear h3
            go_wp2_with fail
            go_ret2
            exact ⟨_, rfl, IntsS.nil _, HSW.out.step H3.out⟩
        · rw [if_neg (by rw [← hb, hNl]; exact hbad), ← hn] at hpp
          obtain rfl : b = true := by cases b; exact absurd (Or.inl rfl) hbad; rfl
          have hN20 : N ≠ 20 := fun h => hbad (Or.inr h)
          have t9 : ((N : Int) == 20) = false := by rw [beq_eq_false_iff_ne]; omega
          have hN19 : N ≤ 19 := by omega
          have Hpp := Lib.hid hpp
          clear hpp
          clear hn hb hbad hNl hN20
          go_wp2_with fail
          refine (c1).calls HF.out ?_
          intro w3 h3
          have H3 := Lib.hid h3
          clear h3
          have HO3 := Lib.hid (HO.out.since H3.out)
          have HS3 := Lib.hid (HSW.out.step H3.out)
          go_wp2_with (at_builtin; refine app_one elemI rfl _ _ (by rfl) w w3 _ N _ (by rfl) HO3.out HS3.out _ (by rfl) rfl (by omega) (by decide) ?_)
          intro v4 w4 hO4 hS4
          have HO4 := Lib.hid hO4
          clear hO4
          have HS4 := Lib.hid hS4
          clear hS4
          go_wp2_with fail
          go_roundw
          case rel => exact ⟨c.size + 1, N + 1, _, ⟨#[]⟩, by omega, by omega, by go_num, rfl, Nat.zero_le _, Lib.hid (by unfold IntsO; rw [List.map_append]; exact HO4.out), Lib.hid (Or.inr ⟨rfl, Hpp.out⟩), HS4⟩
          case measure => (simp [intOf] <;> omega)
    · have hRl : R = some l := by rcases HC.out with h | h; omega; exact h.2
      have hall := HR.out.symm.trans hRl
      have hRd := HO.out.read
      obtain ⟨A, cap, hsl⟩ := HO.out.slice
      subst hsl
      have hNl := HO.out.len
      by_cases hok : Ok l
      · obtain ⟨z1, z2⟩ := par_some _ l hall hok
        have c1 := right_any wr _ l hRd true (decide_eq_true hok).symm
        have c2 := rright_any wr _ l hRd true (decide_eq_true hok).symm
        obtain rfl : xs = l := by rw [HXS.out, z1]
        obtain rfl : q = true := by rw [HQ.out, z2]
        have HRd := Lib.hid hRd
        clear z1 z2 hall hRl hok hRd hNl c1
        go_wp2_with fail
        refine c2.mono ?_
        rintro e w2 ⟨rfl, rfl⟩
        go_wp2_with fail
        go_ret2
        exact ⟨_, rfl, HRd.out, HSW.out⟩
      · obtain ⟨z1, z2⟩ := par_bad _ l hall hok
        have c2 := rright_any wr _ l hRd false (decide_eq_false hok).symm
        obtain rfl : xs = [] := by rw [HXS.out, z1]
        obtain rfl : q = false := by rw [HQ.out, z2]
        clear z1 z2 hall hRl hok hRd hNl
        go_wp2_with fail
        refine c2.mono ?_
        rintro e w2 ⟨rfl, rfl⟩
        go_wp2_with fail
        go_ret2
        exact ⟨_, rfl, IntsS.nil _, HSW.out⟩
end Oid
end Go.Proofs.YtpakifiphdlkoaaDoor
