/- The walks of the reference of package octets. -/
import Derived.Test.YtlcicpdnakmdnaaBase
import Derived.Test.YtlcicpdnakmdnaaStr
import Derived.Test.YtlcicpdnakmdnaaOct
namespace Go.Proofs.Ytlcicpdnakmdnaa
open Go.RowKit
namespace RefOct

set_option maxHeartbeats 400000 in
theorem get_in (s : ByteArray) (w : World) (h1 : 1 ≤ s.size) (hs : s.size ≤ 8) :
    Calls Try.prog 37 #[.string s] w fun e w' => e = .returned (.tuple #[.int .u64 (Oct.numN s.data.toList : Nat), .bool true]) ∧ w = w' := by
  go_enter Try.func37, Try.ntmps37
  go_wp2
  go_loop [4, 5] (fun n i => ∃ k : Nat, k ≤ s.size ∧ i = .int .i64 k ∧ n = .int .u64 ((Oct.numN (s.data.toList.take k) : Nat) : Int)) (fun _ i => s.size - (intOf i).toNat)
  case atStart => exact ⟨0, Nat.zero_le _, rfl, rfl⟩
  case round =>
    obtain ⟨k, hk, rfl, rfl⟩ := hrel
    by_cases hlt : k < s.size
    · have hts : Oct.numN (s.data.toList.take (k + 1)) = Oct.numN (s.data.toList.take k) * 256 + s[k].toNat := by
        rw [List.take_succ_eq_append_getElem (by simpa using hlt), Oct.numN_snoc]; rfl
      have HS := Lib.hid hts; clear hts
      have hb : Oct.numN (s.data.toList.take k) < 72057594037927936 := Nat.lt_of_lt_of_le (Oct.numN_lt _ 7 (by simp; omega)) (by decide)
      have hc := s[k].toNat_lt
      generalize Oct.numN (s.data.toList.take k) = q at *
      go_wp2_with fail
      go_round
      case rel => exact ⟨k + 1, by omega, by go_num, by rw [HS.out]; simp⟩
      case measure => simp [intOf]; omega
    · go_wp2_with fail
      go_ret2
      rw [List.take_of_length_le (by simp; omega)]
      exact ⟨rfl, rfl⟩

set_option maxHeartbeats 400000 in
theorem get_out (s : ByteArray) (w : World) (h : s.size < 1 ∨ 8 < s.size) (hm : s.size ≤ 9223372036854775807) :
    Calls Try.prog 37 #[.string s] w fun e w' => e = .returned (.tuple #[.int .u64 0, .bool false]) ∧ w = w' := by
  rcases h with h | h
  · go_enter Try.func37, Try.ntmps37
    go_wp2
    go_ret2
    exact ⟨rfl, rfl⟩
  · have h' : ¬ s.size < 1 := by omega
    go_enter Try.func37, Try.ntmps37
    go_wp2
    go_ret2
    exact ⟨rfl, rfl⟩

/-- the last k bytes of a number, the most significant first -/
def low (n : Int) : Nat → List UInt8
  | 0 => []
  | k+1 => UInt8.ofNat (n / 2 ^ (8 * k) % 256).toNat :: low n k

theorem low_len (n : Int) (k : Nat) : (low n k).length = k := by
  induction k with
  | zero => rfl
  | succ k ih => simp [low, ih]

set_option maxHeartbeats 1000000 in
theorem put_mid (n : Int) (width : Nat) (w : World) (hn : 0 ≤ n) (hn2 : n ≤ 18446744073709551615) (h0 : 1 ≤ width) (h1 : width ≤ 8) :
    Calls Try.prog 33 #[.int .u64 n, .int .i64 (width : Int)] w fun e w' => e = .returned (.string (bs (low n width))) ∧ Below w.heap.size w w' := by
  go_enter Try.func33, Try.ntmps33
  go_wp2
  go_loopw [0, 5, 6] (fun v s i wr => ∃ (k : Nat) (m : Int), k ≤ width ∧ i = .int .i64 (k : Int) ∧ Hid (m = n / 2 ^ (8 * k)) ∧ 0 ≤ m ∧ m ≤ 18446744073709551615 ∧ v = .int .u64 m ∧ s = .string (bs (low n k)) ∧ Hid (Since w wr)) (fun _ _ i _ => width - (intOf i).toNat)
  case atStart => exact ⟨0, n, by omega, rfl, Lib.hid (by simp), hn, hn2, rfl, rfl, Lib.hid (Since.refl w)⟩
  case round =>
    obtain ⟨k, m, hk, rfl, HM, hm0, hm1, rfl, rfl, HS⟩ := hrel
    by_cases hlt : k < width
    · have g := run_convert_bytes_arg (P := Try.prog) (wr.alloc (.cells #[.int .u8 (m % 256)] 5)) 52 5 Try.underlying52 Try.underlying5 wr.heap.size 0 1 1 [m % 256] rfl (fun i hi => by
        obtain rfl : i = 0 := by omega
        rw [Nat.zero_add, (World.rowIs_alloc wr #[.int .u8 (m % 256)] 5 (fun _ => .int .u8 (m % 256)) (fun j hj => by
          obtain rfl : j = 0 := by simp at hj; omega
          rfl)).cell (Nat.lt_succ_self 0)]; rfl) 9 Try.underlying9
      have hsz : ¬ 9223372036854775807 < (strOfNums [m % 256]).size + (bs (low n k)).size := by
        rw [strOfNums_size, size_bs, low_len]; simp; omega
      go_wp2_with fail
      go_roundw
      case rel =>
        refine ⟨k + 1, m / 256, by omega, by go_num, Lib.hid ?_, by omega, by omega, rfl, ?_, Lib.hid (HS.out.alloc _)⟩
        · rw [HM.out, Int.ediv_ediv_of_nonneg (by exact Int.le_of_lt (Int.pow_pos (by decide))), show 8 * (k + 1) = 8 * k + 8 from by omega, Int.pow_add]; rfl
        · congr 1
          apply ba_ext
          rw [app_list, list_bs, list_bs, nums_list, HM.out]
          rfl
      case measure => simp [intOf]; omega
    · obtain rfl : k = width := by omega
      go_wp2_with fail
      go_ret
      exact ⟨rfl, HS.out⟩

set_option maxHeartbeats 400000 in
theorem put_out (n width : Int) (w : World) (h : width < 1 ∨ 8 < width) :
    Calls Try.prog 33 #[.int .u64 n, .int .i64 width] w fun e w' => e = .returned (.string ⟨#[]⟩) ∧ Below w.heap.size w w' := by
  rcases h with h | h
  · go_enter Try.func33, Try.ntmps33
    go_wp2
    go_ret
    exact ⟨rfl, Below.refl _ _⟩
  · have h' : ¬ width < 1 := by omega
    go_enter Try.func33, Try.ntmps33
    go_wp2
    go_ret
    exact ⟨rfl, Below.refl _ _⟩

theorem low_get (n : Int) (k i : Nat) (h : i < k) : (low n k)[i]? = some (UInt8.ofNat (n / 2 ^ (8 * (k - 1 - i)) % 256).toNat) := by
  induction k generalizing i with
  | zero => omega
  | succ k ih =>
    cases i with
    | zero => rfl
    | succ i => show (low n k)[i]? = _; rw [ih i (by omega), show k + 1 - 1 - (i + 1) = k - 1 - i from by omega]
/-- both ways give the same bytes -/
theorem put_same (n : Int) (k : Nat) (h : k ≤ 8) : strOfNums (Oct.putL n k) = bs (low n k) := by
  apply ba_ext
  rw [nums_list, list_bs]
  apply List.ext_getElem?
  intro i
  by_cases hi : i < k
  · rw [low_get n k i hi]
    simp [Oct.putL, hi]
    rw [show 7 - (8 - k + i) = k - 1 - i from by omega]
  · rw [List.getElem?_eq_none (by simp [Oct.putL]; omega), List.getElem?_eq_none (by rw [low_len]; omega)]

end RefOct
end Go.Proofs.Ytlcicpdnakmdnaa
