/- The reference of package sched. -/
import Derived.Test.YtoblmddnefmpoaaSched3
import Derived.Test.YtoblmddnefmpoaaRefField
import Derived.Test.YtoblmddnefmpoaaRefRnd
import Derived.Deep.RegionWith
namespace Go.Proofs.Ytoblmddnefmpoaa
open Go.RowKit
namespace RefSched
open Rnd Sched

theorem rounds_yes (m : Nat) (hm : m = 16 ∨ m = 24 ∨ m = 32) (x : Int) (hx : x = ((m / 4 + 6 : Nat) : Int)) : Ret 45 #[.int .i64 (m : Int)] (.int .i64 x) := by
  intro w
  subst hx
  rcases hm with rfl | rfl | rfl
  all_goals
    go_enter Try.func45, Try.ntmps45
    go_wp2_with fail
    go_ret
    exact ⟨rfl, rfl⟩
theorem rounds_no (n : Int) (h : n ≠ 16 ∧ n ≠ 24 ∧ n ≠ 32) : Ret 45 #[.int .i64 n] (.int .i64 0) := by
  intro w
  obtain ⟨h1, h2, h3⟩ := h
  have n1 : (n == 16) = false := beq_eq_false_iff_ne.2 h1
  have n2 : (n == 24) = false := beq_eq_false_iff_ne.2 h2
  have n3 : (n == 32) = false := beq_eq_false_iff_ne.2 h3
  clear h1 h2 h3
  go_enter Try.func45, Try.ntmps45
  go_wp2_with fail
  go_ret
  exact ⟨rfl, rfl⟩
theorem pow2 (a : Nat) (i : Int) (w : World) (ha : a ≤ 255) (hi : i ≤ 254) : Calls Try.prog 70 #[.int .u8 (a : Int), .int .i64 i] w fun e w' => e = .returned (.int .u8 ((Gf.pow a i.toNat : Nat) : Int)) ∧ w = w' := RefField.pow_ret a i w ha (by omega)
theorem const_any (i : Int) (c : Nat) (hc : c = conN i) : Ret 47 #[.int .i64 i] (.int .u8 (c : Int)) := by
  intro w
  by_cases h : 1 ≤ i ∧ i ≤ 255
  · obtain ⟨h1, h2⟩ := h
    have c1 : Ret 70 #[.int .u8 2, .int .i64 (i - 1)] (.int .u8 (c : Int)) := fun w => by
      rw [hc, conN, if_pos ⟨h1, h2⟩]
      exact pow2 2 (i - 1) w (by decide) (by omega)
    clear hc
    go_enter Try.func47, Try.ntmps47
    go_wp2_with fail
    refine (c1).calls ?_
    go_wp2_with fail
    go_ret
    exact ⟨rfl, rfl⟩
  · have hc0 : c = 0 := by rw [hc, conN, if_neg h]
    subst hc0
    clear hc
    by_cases h1 : i < 1
    · clear h
      go_enter Try.func47, Try.ntmps47
      go_wp2_with fail
      go_ret
      exact ⟨rfl, rfl⟩
    · have h2 : 255 < i := by omega
      clear h
      go_enter Try.func47, Try.ntmps47
      go_wp2_with fail
      go_ret
      exact ⟨rfl, rfl⟩
theorem xor_m (a b : ByteArray) (ha : a.size ≤ 140737488355328) (hb : b.size ≤ 140737488355328) (X : ByteArray) (hX : X = xorS a b) : Mak 63 #[.string a, .string b] (.string X) := fun w => by
  rw [hX]; exact RefOct.xor_any a b _ w rfl ha hb

def upw (l : List UInt8) (n j : Nat) : List ByteArray := if j ≤ n then Oct.pcs l 4 j else grow (first l n) n (j - n)
theorem upw_len (l : List UInt8) (n j : Nat) : (upw l n j).length = j := by
  unfold upw; split
  · rw [Oct.pcs_len]
  · rw [grow_len, first, Oct.pcs_len]; omega
theorem upw_lo (l : List UInt8) (n j : Nat) (h : j < n) : upw l n (j + 1) = upw l n j ++ [Oct.pc l 4 j] := by
  unfold upw; rw [if_pos (by omega), if_pos (by omega), Oct.pcs_succ]
theorem upw_n (l : List UInt8) (n k : Nat) : upw l n (n + k) = grow (first l n) n k := by
  unfold upw
  by_cases h : k = 0
  · subst h; rw [if_pos (by omega)]; rfl
  · rw [if_neg (by omega), Nat.add_sub_cancel_left]
theorem upw_hi (l : List UInt8) (n j : Nat) (h : n ≤ j) : upw l n (j + 1) = upw l n j ++ [word (upw l n j) j n] := by
  obtain ⟨k, rfl⟩ : ∃ k, j = n + k := ⟨j - n, by omega⟩
  rw [Nat.add_assoc, upw_n, upw_n]; rfl
theorem upw_size (l : List UInt8) (n j : Nat) (hn : 1 ≤ n) (hl : l.length = 4 * n) : ∀ x ∈ upw l n j, x.size = 4 := by
  unfold upw; split
  · rename_i hj
    intro x hx
    unfold Oct.pcs at hx
    obtain ⟨i, hi, rfl⟩ := List.mem_map.1 hx
    rw [List.mem_range] at hi
    unfold Oct.pc
    rw [size_bs, List.length_take, List.length_drop]
    omega
  · exact grow_size _ n _ hn (by unfold first; rw [Oct.pcs_len]) (first_size l n hl)
theorem conv4 (x : Int) (S : ByteArray) (hS : strOfNums [x, 0, 0, 0] = S) : ∀ (W : World) (g : Nat), W.cell? ⟨g, 0, none⟩ = some (.int .u8 x) → W.cell? ⟨g, 1, none⟩ = some (.int .u8 0) → W.cell? ⟨g, 2, none⟩ = some (.int .u8 0) → W.cell? ⟨g, 3, none⟩ = some (.int .u8 0) → ∀ dst, Try.prog.underlying dst = some .string → (convert 69 dst (.slice (some ⟨g, 0, none⟩) 4 4)).run Try.prog W = .ok (.string S) W := by
  subst hS
  intro W g h0 h1 h2 h3
  refine run_convert_bytes_arg (P := Try.prog) W 69 5 Try.underlying69 Try.underlying5 g 0 4 4 [x, 0, 0, 0] rfl fun i hi => ?_
  have hii : i = 0 ∨ i = 1 ∨ i = 2 ∨ i = 3 := by omega
  rcases hii with rfl | rfl | rfl | rfl
  · exact h0
  · exact h1
  · exact h2
  · exact h3
end RefSched
end Go.Proofs.Ytoblmddnefmpoaa
