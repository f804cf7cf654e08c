/- The walks of package digits: decimal texts. -/
import Derived.Test.YtldipjlepofdgaaBase
import Derived.Test.YtldipjlepofdgaaMem
import Derived.Test.YtldipjlepofdgaaStr
import Derived.Test.YtldipjlepofdgaaDig
import Derived.Laws.BytesArg
namespace Go.Proofs.Ytldipjlepofdgaa
open Go.RowKit
namespace Dig

def numD (l : List UInt8) : Nat := l.foldl (fun n c => 10 * n + (c.toNat - 48)) 0
def isD (c : UInt8) : Bool := decide (48 ≤ c.toNat) && decide (c.toNat ≤ 57)
theorem numD_snoc (l : List UInt8) (c : UInt8) : numD (l ++ [c]) = 10 * numD l + (c.toNat - 48) := by unfold numD; rw [List.foldl_append]; rfl
theorem numD_aux (l : List UInt8) (h : l.all isD = true) : ∀ n : Nat, l.foldl (fun n c => 10 * n + (c.toNat - 48)) n < (n + 1) * 10 ^ l.length := by
  induction l with
  | nil => intro n; simp
  | cons c l ih =>
    intro n
    rw [List.all_cons, Bool.and_eq_true] at h
    have h1 := ih h.2 (10 * n + (c.toNat - 48))
    have hc : c.toNat ≤ 57 := by have := h.1; unfold isD at this; simp at this; exact this.2
    simp only [List.foldl_cons, List.length_cons]
    refine Nat.lt_of_lt_of_le h1 ?_
    rw [Nat.pow_succ, Nat.mul_comm (10 ^ l.length) 10, ← Nat.mul_assoc]
    exact Nat.mul_le_mul_right _ (by omega)
theorem numD_lt (l : List UInt8) (k : Nat) (h : l.all isD = true) (hk : l.length ≤ k) : numD l < 10 ^ k := by
  have h1 := numD_aux l h 0
  rw [Nat.zero_add, Nat.one_mul] at h1
  exact Nat.lt_of_lt_of_le h1 (Nat.pow_le_pow_right (by decide) hk)
theorem take_snoc (s : ByteArray) (k : Nat) (h : k < s.size) : s.data.toList.take (k + 1) = s.data.toList.take k ++ [s[k]] := by
  rw [List.take_succ_eq_append_getElem (by simpa using h)]; rfl
theorem all_take (l : List UInt8) (k : Nat) (h : l.all isD = true) : (l.take k).all isD = true := by
  rw [List.all_eq_true] at *
  exact fun x hx => h x (List.mem_of_mem_take hx)

set_option maxHeartbeats 400000 in
theorem undec_out (s : ByteArray) (w : World) (h : s.size < 1 ∨ 18 < s.size) (hm : s.size ≤ 9223372036854775807) :
    Calls Try.prog 39 #[.string s] w fun e w' => e = .returned (.tuple #[.int .i64 0, .bool false]) ∧ w = w' := by
  rcases h with h | h
  · go_enter Try.func39, Try.ntmps39
    go_wp2
    go_ret2
    exact ⟨rfl, rfl⟩
  · have h' : ¬ s.size < 1 := by omega
    go_enter Try.func39, Try.ntmps39
    go_wp2
    go_ret2
    exact ⟨rfl, rfl⟩

set_option maxHeartbeats 1000000 in
theorem undec_in (s : ByteArray) (w : World) (h1 : 1 ≤ s.size) (hs : s.size ≤ 18) (N : Int) (B : Bool) (hB : B = s.data.toList.all isD) (hN : N = if s.data.toList.all isD = true then (numD s.data.toList : Int) else 0) :
    Calls Try.prog 39 #[.string s] w fun e w' => e = .returned (.tuple #[.int .i64 N, .bool B]) ∧ w = w' := by
  have HB := Lib.hid hB
  have HN := Lib.hid hN
  clear hB hN
  go_enter Try.func39, Try.ntmps39
  go_wp2
  go_loop [4, 16] (fun n i => ∃ k : Nat, k ≤ s.size ∧ i = .int .i64 k ∧ Hid ((s.data.toList.take k).all isD = true) ∧ n = .int .i64 ((numD (s.data.toList.take k) : Nat) : Int)) (fun _ i => s.size - (intOf i).toNat)
  case atStart => exact ⟨0, Nat.zero_le _, rfl, Lib.hid rfl, rfl⟩
  case round =>
    obtain ⟨k, hk, rfl, HA, rfl⟩ := hrel
    by_cases hlt : k < s.size
    · have hts : numD (s.data.toList.take (k + 1)) = 10 * numD (s.data.toList.take k) + (s[k].toNat - 48) := by
        rw [take_snoc s k hlt, numD_snoc]
      have has : (s.data.toList.take (k + 1)).all isD = isD s[k] := by
        rw [take_snoc s k hlt, List.all_append, HA.out]; simp
      have hb : numD (s.data.toList.take k) < 10 ^ 17 := numD_lt _ 17 HA.out (by simp; omega)
      have hb2 : numD (s.data.toList.take k) < 100000000000000000 := hb
      clear hb
      have hc := s[k].toNat_lt
      have HS := Lib.hid hts
      have HSA := Lib.hid has
      clear hts has
      generalize numD (s.data.toList.take k) = q at *
      by_cases c1 : 48 ≤ s[k].toNat
      · by_cases c2 : s[k].toNat ≤ 57
        · have hd : isD s[k] = true := by unfold isD; simp [c1, c2]
          have HD := Lib.hid hd
          clear hd
          go_wp2_with fail
          go_round
          case rel => exact ⟨k + 1, by omega, by go_num, Lib.hid (by rw [HSA.out, HD.out]), by rw [HS.out]; congr 1; omega⟩
          case measure => simp [intOf]; omega
        · have hd : isD s[k] = false := by unfold isD; simp; omega
          have hno : s.data.toList.all isD = false := by
            cases hc : s.data.toList.all isD with
            | false => rfl
            | true => have := all_take _ (k + 1) hc; rw [HSA.out, hd] at this; cases this
          have hN0 : N = 0 := by rw [HN.out, hno]; rfl
          have hB0 : B = false := by rw [HB.out, hno]
          subst hN0 hB0
          clear hd hno
          go_wp2_with fail
          go_ret2
          exact ⟨rfl, rfl⟩
      · have hd : isD s[k] = false := by unfold isD; simp; omega
        have hno : s.data.toList.all isD = false := by
          cases hc : s.data.toList.all isD with
          | false => rfl
          | true => have := all_take _ (k + 1) hc; rw [HSA.out, hd] at this; cases this
        have hN0 : N = 0 := by rw [HN.out, hno]; rfl
        have hB0 : B = false := by rw [HB.out, hno]
        subst hN0 hB0
        clear hd hno
        go_wp2_with fail
        go_ret2
        exact ⟨rfl, rfl⟩
    · have hall : s.data.toList.take k = s.data.toList := List.take_of_length_le (by simp; omega)
      have hAA := HA.out
      rw [hall] at hAA
      have hB0 : B = true := by rw [HB.out, hAA]
      have hN0 : N = (numD s.data.toList : Int) := by rw [HN.out, hAA]; rfl
      rw [hall]
      subst hB0
      have HN0 := Lib.hid hN0
      clear hall hAA hN0
      go_wp2_with fail
      go_ret2
      rw [HN0.out]
      exact ⟨rfl, rfl⟩

/-- digit number j from the right -/
def dg (n j : Nat) : Int := 48 + ((n / 10 ^ j % 10 : Nat) : Int)

set_option maxHeartbeats 400000 in
theorem dec_out (n width : Int) (w : World) (h : n < 0 ∨ width < 1 ∨ 18 < width) :
    Calls Try.prog 43 #[.int .i64 n, .int .i64 width] w fun e w' => e = .returned (.string ⟨#[]⟩) ∧ w = w' := by
  by_cases h1 : n < 0
  · go_enter Try.func43, Try.ntmps43
    go_wp2
    go_ret
    exact ⟨rfl, rfl⟩
  · by_cases h2 : width < 1
    · go_enter Try.func43, Try.ntmps43
      go_wp2
      go_ret
      exact ⟨rfl, rfl⟩
    · have h3 : 18 < width := by omega
      clear h
      go_enter Try.func43, Try.ntmps43
      go_wp2
      go_ret
      exact ⟨rfl, rfl⟩

theorem slice18 (width b : Nat) (h0 : 1 ≤ width) (h1 : width ≤ 18) : ∀ w : World,
    (Instr.sliceAt 60 (.pointer (some ⟨b, 0, none⟩)) none (some (.int .i64 (width : Int))) none).run Try.prog w = .ok (.slice (some ⟨b, 0, none⟩) width 18) w := by
  intro w
  rcases (show width = 1 ∨ width = 2 ∨ width = 3 ∨ width = 4 ∨ width = 5 ∨ width = 6 ∨ width = 7 ∨ width = 8 ∨ width = 9 ∨ width = 10 ∨ width = 11 ∨ width = 12 ∨ width = 13 ∨ width = 14 ∨ width = 15 ∨ width = 16 ∨ width = 17 ∨ width = 18 by omega) with rfl | rfl | rfl | rfl | rfl | rfl | rfl | rfl | rfl | rfl | rfl | rfl | rfl | rfl | rfl | rfl | rfl | rfl <;> kernel_rfl

set_option maxHeartbeats 1000000 in
theorem dec_mid (n width : Nat) (w : World) (hn : n ≤ 9223372036854775807) (h0 : 1 ≤ width) (h1 : width ≤ 18) (X : ByteArray) (hX : X = if n < 10 ^ width then strOfNums ((List.range width).map fun i => dg n (width - 1 - i)) else ⟨#[]⟩) :
    Calls Try.prog 43 #[.int .i64 (n : Int), .int .i64 (width : Int)] w fun e w' => e = .returned (.string X) ∧ Since w w' := by
  have HX := Lib.hid hX
  clear hX
  go_enter Try.func43, Try.ntmps43
  go_wp2
  go_loopw [0, 18] (fun v i wr => ∃ k m : Nat, k ≤ width ∧ i = .int .i64 (k : Int) ∧ Hid (m = n / 10 ^ k) ∧ m ≤ 9223372036854775807 ∧ v = .int .i64 (m : Int) ∧ Hid (wr.rowIs w.heap.size 60 18 (fun j => if width ≤ j + k ∧ j < width then .int .u8 (dg n (width - 1 - j)) else .int .u8 0)) ∧ Hid (Since w wr)) (fun _ i _ => width - (intOf i).toNat)
  case atStart =>
    refine ⟨0, n, by omega, rfl, Lib.hid (by simp), hn, rfl, Lib.hid ?_, Lib.hid ((Since.refl w).alloc _)⟩
    refine (World.rowIs_alloc w _ _ (fun _ => .int .u8 0) (fun i hi => by
        match i, hi with
        | 0, _ | 1, _ | 2, _ | 3, _ | 4, _ | 5, _ | 6, _ | 7, _ | 8, _ | 9, _ | 10, _ | 11, _ | 12, _ | 13, _ | 14, _ | 15, _ | 16, _ | 17, _ => rfl
        | n + 18, hi => simp at hi; omega)).congr fun j _ => by rw [if_neg (by omega)]
  case round =>
    obtain ⟨k, m, hk, rfl, HM, hm, rfl, HR, HS⟩ := hrel
    by_cases hlt : k < width
    · have hc := HR.out.cell (i := width - 1 - k) (by omega)
      have hf := HR.out.frozen (width - 1 - k)
      have HC := Lib.hid hc
      rw [if_neg (by omega)] at hc
      clear HC
      go_wp2_with fail
      go_roundw
      case rel =>
        refine ⟨k + 1, m / 10, by omega, by go_num, Lib.hid (by rw [HM.out, Nat.div_div_eq_div_mul, Nat.pow_succ]), by omega, by go_num, Lib.hid ((HR.out.set (width - 1 - k) _).congr fun j hj => ?_), Lib.hid (Below.setCell HS.out (p := ⟨w.heap.size, width - 1 - k, none⟩) (Nat.le_refl _) _)⟩
        by_cases h9 : j = width - 1 - k
        · rw [if_pos h9, if_pos (by omega)]
          unfold dg
          rw [show width - 1 - j = k from by omega, ← HM.out]
          simp
        · rw [if_neg h9]
          by_cases h8 : width ≤ j + k ∧ j < width
          · rw [if_pos h8, if_pos (by omega)]
          · rw [if_neg h8, if_neg (by omega)]
      case measure => simp [intOf]; omega
    · obtain rfl : k = width := by omega
      by_cases hm0 : m = 0
      · have hlt2 : n < 10 ^ k := by
          have h9 := HM.out
          rw [hm0] at h9
          exact (Nat.div_eq_zero_iff.1 h9.symm).resolve_left (Nat.ne_of_gt (Nat.pow_pos (by decide)))
        have hX0 : X = strOfNums ((List.range k).map fun i => dg n (k - 1 - i)) := by rw [HX.out, if_pos hlt2]
        subst hm0
        have hsl := slice18 k w.heap.size h0 h1
        have g := run_convert_bytes_arg (P := Try.prog) wr 59 5 Try.underlying59 Try.underlying5 w.heap.size 0 k 18 ((List.range k).map fun i => dg n (k - 1 - i)) (by simp) (fun i hi => by
          rw [Nat.zero_add, HR.out.cell (by omega), if_pos (by omega)]; simp [List.getD, hi]) 9 Try.underlying9
        rw [← hX0] at g
        clear hX0 hlt2
        go_wp2_with fail
        go_ret
        exact ⟨rfl, HS.out⟩
      · have hge : ¬ n < 10 ^ k := fun h => hm0 (by rw [HM.out]; exact Nat.div_eq_of_lt h)
        have hX0 : X = ⟨#[]⟩ := by rw [HX.out, if_neg hge]
        have hm1 : 0 < m := by omega
        subst hX0
        clear hge hm0
        go_wp2_with fail
        go_ret
        exact ⟨rfl, HS.out⟩

end Dig
end Go.Proofs.Ytldipjlepofdgaa
