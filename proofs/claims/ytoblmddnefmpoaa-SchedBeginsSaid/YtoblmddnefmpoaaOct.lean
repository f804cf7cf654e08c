/- The walks of package octets. -/
import Derived.Test.YtoblmddnefmpoaaRows
import Derived.WalkKit
import Derived.WalkSpells
import Derived.WalkLawsBesides
import Derived.Lib.Hide
import Derived.Deep.OwnRows
import Derived.Deep.Draws
import Derived.Laws.BytesArg
import Derived.Test.YtoblmddnefmpoaaBase
import Derived.Test.YtoblmddnefmpoaaMem
import Derived.Test.YtoblmddnefmpoaaStr
namespace Go.Proofs.Ytoblmddnefmpoaa
open Go.RowKit
namespace Oct

def putF (n : Int) (j : Nat) : Value := .int .u8 (n / 2 ^ (8 * (7 - j)) % 256)

def putL (n : Int) (width : Nat) : List Int := (List.range width).map fun i => n / 2 ^ (8 * (7 - (8 - width + i))) % 256

theorem slice8 (width b : Nat) (h0 : 1 ≤ width) (h1 : width ≤ 8) : ∀ w : World,
    (Instr.sliceAt 85 (.pointer (some ⟨b, 0, none⟩)) (some (.int .i64 (8 - (width : Int)))) none none).run Try.prog w = .ok (.slice (some ⟨b, 8 - width, none⟩) width width) w := by
  rcases (show width = 1 ∨ width = 2 ∨ width = 3 ∨ width = 4 ∨ width = 5 ∨ width = 6 ∨ width = 7 ∨ width = 8 by omega) with rfl | rfl | rfl | rfl | rfl | rfl | rfl | rfl <;> intro w <;> kernel_rfl

set_option maxHeartbeats 400000 in
theorem put_mid (n : Int) (width : Nat) (w : World) (hn : 0 ≤ n) (hn2 : n ≤ 18446744073709551615) (h0 : 1 ≤ width) (h1 : width ≤ 8) :
    Calls Try.prog 85 #[.int .u64 n, .int .i64 (width : Int)] w fun e w' => e = .returned (.string (strOfNums (putL n width))) ∧ Below w.heap.size w w' := by
  go_enter Try.func85, Try.ntmps85
  go_wp2
  go_loopw [13] (fun i wr => ∃ k : Nat, k ≤ 8 ∧ i = .int .i64 (k : Int) ∧ Hid (wr.rowIs w.heap.size 85 8 (fun j => if j < k then putF n j else .int .u8 0)) ∧ Hid (Below w.heap.size w wr)) (fun i _ => 8 - (intOf i).toNat)
  case atStart =>
    refine ⟨0, by omega, rfl, ?_, ?_⟩
    · exact Lib.hid (World.rowIs_alloc w _ _ _ (fun i hi => by
        match i, hi with
        | 0, _ | 1, _ | 2, _ | 3, _ | 4, _ | 5, _ | 6, _ | 7, _ => rfl
        | n + 8, hi => simp at hi; omega))
    · exact Lib.hid ((Below.refl _ _).alloc (Nat.le_refl _) _)
  case round =>
    obtain ⟨k, hk, rfl, HR, HB⟩ := hrel
    by_cases hlt : k < 8
    · have hc := HR.out.cell (i := k) hlt
      have hf := HR.out.frozen k
      go_wp2_with fail
      go_roundw
      case rel =>
        refine ⟨k + 1, by omega, by go_num, Lib.hid ((HR.out.set k _).congr fun j hj => ?_), Lib.hid (HB.out.setCell (Nat.le_refl _) _)⟩
        by_cases h1 : j = k
        · subst h1; simp [putF]
        · by_cases h2 : j < k
          · simp [h1, h2, show j < k + 1 from by omega]
          · simp [h1, h2, show ¬ j < k + 1 from by omega]
      case measure => simp [intOf]; omega
    · obtain rfl : k = 8 := by omega
      have g := run_convert_bytes_arg (P := Try.prog) wr 69 5 Try.underlying69 Try.underlying5 w.heap.size (8 - width) width width (putL n width) (by simp [putL]) (fun i hi => by
        rw [HR.out.cell (by omega), if_pos (by omega)]; simp [putF, putL, show i < width from by omega]) 9 Try.underlying9
      have hsl := slice8 width w.heap.size h0 h1
      have HR' := HR; have HB' := HB
      go_wp2_with fail
      go_ret
      exact ⟨rfl, HB.out⟩

set_option maxHeartbeats 400000 in
theorem put_out (n width : Int) (w : World) (h : width < 1 ∨ 8 < width) :
    Calls Try.prog 85 #[.int .u64 n, .int .i64 width] w fun e w' => e = .returned (.string ⟨#[]⟩) ∧ Below w.heap.size w w' := by
  rcases h with h | h
  · go_enter Try.func85, Try.ntmps85
    go_wp2
    go_ret
    exact ⟨rfl, (Below.refl _ _).alloc (Nat.le_refl _) _⟩
  · have h' : ¬ width < 1 := by omega
    go_enter Try.func85, Try.ntmps85
    go_wp2
    go_ret
    exact ⟨rfl, (Below.refl _ _).alloc (Nat.le_refl _) _⟩

def numN (l : List UInt8) : Nat := l.foldl (fun n c => n * 256 + c.toNat) 0
theorem numN_snoc (l : List UInt8) (c : UInt8) : numN (l ++ [c]) = numN l * 256 + c.toNat := by unfold numN; rw [List.foldl_append]; rfl
theorem numN_aux (l : List UInt8) : ∀ n : Nat, l.foldl (fun n c => n * 256 + c.toNat) n < (n + 1) * 256 ^ l.length := by
  induction l with
  | nil => intro n; simp
  | cons c l ih =>
    intro n
    have h := ih (n * 256 + c.toNat)
    have hc := c.toNat_lt
    simp only [List.foldl_cons, List.length_cons]
    refine Nat.lt_of_lt_of_le h ?_
    rw [Nat.pow_succ, Nat.mul_comm (256 ^ l.length) 256, ← Nat.mul_assoc]
    exact Nat.mul_le_mul_right _ (by omega)
theorem numN_lt (l : List UInt8) (k : Nat) (h : l.length ≤ k) : numN l < 256 ^ k := by
  have h1 := numN_aux l 0
  rw [Nat.zero_add, Nat.one_mul] at h1
  exact Nat.lt_of_lt_of_le h1 (Nat.pow_le_pow_right (by decide) h)


set_option maxHeartbeats 400000 in
theorem cut_no (s : ByteArray) (a n : Int) (w : World) (hm : s.size ≤ 9223372036854775807) (h : a < 0 ∨ (s.size : Int) ≤ a ∨ n < 1) :
    Calls Try.prog 53 #[.string s, .int .i64 a, .int .i64 n] w fun e w' => e = .returned (.string ⟨#[]⟩) ∧ w = w' := by
  by_cases h1 : a < 0
  · go_enter Try.func53, Try.ntmps53
    go_wp2
    go_ret
    exact ⟨rfl, rfl⟩
  · by_cases h2 : (s.size : Int) ≤ a
    · go_enter Try.func53, Try.ntmps53
      go_wp2
      go_ret
      exact ⟨rfl, rfl⟩
    · have h3 : n < 1 := by omega
      clear h
      go_enter Try.func53, Try.ntmps53
      go_wp2
      go_ret
      exact ⟨rfl, rfl⟩

theorem cut_eq (s : ByteArray) (a n m : Nat) (h : m = min n (s.size - a)) : s.extract a (a + m) = bs ((s.data.toList.drop a).take n) := by
  subst h
  apply ba_ext
  rw [ext_list, list_bs, Nat.add_sub_cancel_left]
  rw [List.take_eq_take_iff]
  simp

set_option maxHeartbeats 400000 in
theorem cut_yes (s : ByteArray) (a n : Nat) (w : World) (hm : s.size ≤ 9223372036854775807) (hn : n ≤ 9223372036854775807) (h1 : a < s.size) (h2 : 1 ≤ n) :
    Calls Try.prog 53 #[.string s, .int .i64 (a : Int), .int .i64 (n : Int)] w fun e w' => e = .returned (.string (bs ((s.data.toList.drop a).take n))) ∧ w = w' := by
  by_cases hc : s.size - a < n
  · have he := cut_eq s a n (s.size - a) (by omega)
    go_enter Try.func53, Try.ntmps53
    go_wp2
    go_ret
    exact ⟨by simp [he], rfl⟩
  · have he := cut_eq s a n n (by omega)
    go_enter Try.func53, Try.ntmps53
    go_wp2
    go_ret
    exact ⟨by simp [he], rfl⟩

set_option maxHeartbeats 400000 in
theorem zeros_yes (n : Nat) (w : World) (h1 : 1 ≤ n) (h2 : n ≤ 65552) :
    Calls Try.prog 93 #[.int .i64 (n : Int)] w fun e w' => e = .returned (.string (strOfNums (List.replicate n 0))) ∧ Below w.heap.size w w' := by
  have hmk : ∀ w : World, (Instr.makeSlice 69 (.int .i64 (n : Int)) (.int .i64 (n : Int))).run Try.prog w = .ok (.slice (some ⟨w.heap.size, 0, none⟩) n n) (w.alloc (.cells (madeCells #[.int .u8 0] n) 5)) := fun w =>
    run_make_row' (P := Try.prog) 69 5 (.int .u8 0) 1 Try.underlying69 info5 rfl .i64 .i64 n (by omega) (by omega) w
  have g := run_convert_bytes_arg (P := Try.prog) (w.alloc (.cells (madeCells #[.int .u8 0] n) 5)) 69 5 Try.underlying69 Try.underlying5 w.heap.size 0 n n (List.replicate n 0) (by simp) (fun i hi => by
        rw [Nat.zero_add, (World.rowIs_made w (.int .u8 0) n 5).cell hi]; simp [hi]) 9 Try.underlying9
  go_enter Try.func93, Try.ntmps93
  go_wp2
  go_ret
  exact ⟨rfl, (Below.refl _ _).alloc (Nat.le_refl _) _⟩

set_option maxHeartbeats 400000 in
theorem zeros_no (n : Int) (w : World) (h : n < 1 ∨ 65552 < n) :
    Calls Try.prog 93 #[.int .i64 n] w fun e w' => e = .returned (.string ⟨#[]⟩) ∧ w = w' := by
  rcases h with h | h
  · go_enter Try.func93, Try.ntmps93
    go_wp2
    go_ret
    exact ⟨rfl, rfl⟩
  · have h' : ¬ n < 1 := by omega
    go_enter Try.func93, Try.ntmps93
    go_wp2
    go_ret
    exact ⟨rfl, rfl⟩

def xorV (a b : List UInt8) (j : Nat) : Int := (((a.getD j 0).toNat ^^^ (b.getD j 0).toNat : Nat) : Int)
theorem getD_at (s : ByteArray) (k : Nat) (h : k < s.size) : s.data.toList.getD k 0 = s[k] := by
  simp [List.getD, List.getElem?_eq_getElem (show k < s.data.toList.length from h)]; rfl

set_option maxHeartbeats 400000 in
theorem xor_any (s t : ByteArray) (w : World) (n : Nat) (hn : n = min s.size t.size) (hm : s.size ≤ 140737488355328) (hm2 : t.size ≤ 140737488355328) :
    Calls Try.prog 61 #[.string s, .string t] w fun e w' => e = .returned (.string (strOfNums ((List.range n).map (xorV s.data.toList t.data.toList)))) ∧ Below w.heap.size w w' := by
  have hmk : ∀ w : World, (Instr.makeSlice 69 (.int .i64 (n : Int)) (.int .i64 (n : Int))).run Try.prog w = .ok (.slice (some ⟨w.heap.size, 0, none⟩) n n) (w.alloc (.cells (madeCells #[.int .u8 0] n) 5)) := fun w =>
    run_make_row' (P := Try.prog) 69 5 (.int .u8 0) 1 Try.underlying69 info5 rfl .i64 .i64 n (by omega) (by omega) w
  have hn1 : n ≤ s.size := by omega
  have hn2 : n ≤ t.size := by omega
  have hmin : min (s.size : Int) (t.size : Int) = (n : Int) := by omega
  go_enter Try.func61, Try.ntmps61
  clear hn
  go_wp2
  go_loopw [16] (fun i wr => ∃ k : Nat, k ≤ n ∧ i = .int .i64 (k : Int) ∧ Hid (wr.rowIs w.heap.size 5 n (fun j => if j < k then .int .u8 (xorV s.data.toList t.data.toList j) else .int .u8 0)) ∧ Hid (Below w.heap.size w wr)) (fun i _ => n - (intOf i).toNat)
  case atStart =>
    exact ⟨0, by omega, rfl, Lib.hid ((World.rowIs_made w (.int .u8 0) n 5).congr fun j _ => by simp), Lib.hid ((Below.refl _ _).alloc (Nat.le_refl _) _)⟩
  case round =>
    obtain ⟨k, hk, rfl, HR, HB⟩ := hrel
    by_cases hlt : k < n
    · have hc := HR.out.cell (i := k) hlt
      have hf := HR.out.frozen k
      have hks : k < s.size := by omega
      have hkt : k < t.size := by omega
      have hx : bits .xor .u8 ((s[k].toNat : Nat) : Int) ((t[k].toNat : Nat) : Int) = xorV s.data.toList t.data.toList k := by
        unfold xorV; rw [getD_at s k hks, getD_at t k hkt]; exact u8_xor_nat _ _ s[k].toNat_lt t[k].toNat_lt
      have HX := Lib.hid hx; clear hx hmin
      go_wp2_with fail
      go_region
      go_wp2_with fail
      go_roundw
      case rel =>
        refine ⟨k + 1, by omega, by go_num, Lib.hid ((HR.out.set k _).drew.congr fun j hj => ?_), Lib.hid ((HB.out.setCell (p := ⟨w.heap.size, k, none⟩) (Nat.le_refl _) _).drew)⟩
        by_cases h1 : j = k
        · subst h1; rw [if_pos rfl, if_pos (by omega)]; rw [← HX.out]
        · by_cases h2 : j < k
          · simp [h1, h2, show j < k + 1 from by omega]
          · simp [h1, h2, show ¬ j < k + 1 from by omega]
      case measure => simp [intOf]; omega
    · obtain rfl : k = n := by omega
      have g := run_convert_bytes_arg (P := Try.prog) wr 69 5 Try.underlying69 Try.underlying5 w.heap.size 0 k k ((List.range k).map (xorV s.data.toList t.data.toList)) (by simp) (fun i hi => by
        rw [Nat.zero_add, HR.out.cell hi, if_pos hi]; simp [hi]) 9 Try.underlying9
      go_wp2_with fail
      go_ret
      exact ⟨rfl, HB.out⟩

end Oct
end Go.Proofs.Ytoblmddnefmpoaa
