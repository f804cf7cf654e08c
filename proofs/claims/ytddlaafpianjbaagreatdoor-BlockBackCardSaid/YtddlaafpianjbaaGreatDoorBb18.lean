/- Joined texts. -/
-- PACK: YtddlaafpianjbaaGreatDoorOct3 YtddlaafpianjbaaGreatDoorRefOct3
import Derived.Test.YtddlaafpianjbaaGreatDoorBb4
import Derived.Test.YtddlaafpianjbaaGreatDoorBb17

/- octets.Pieces, octets.Trim. -/
namespace Go.Proofs.YtddlaafpianjbaaGreatDoor
open Go.RowKit
namespace Oct

/-- piece number i of n bytes each -/
def pc (l : List UInt8) (n i : Nat) : ByteArray := bs ((l.drop (n * i)).take n)
def pcs (l : List UInt8) (n m : Nat) : List ByteArray := (List.range m).map (pc l n)
theorem pcs_len (l : List UInt8) (n m : Nat) : (pcs l n m).length = m := by simp [pcs]
theorem pcs_succ (l : List UInt8) (n m : Nat) : pcs l n (m + 1) = pcs l n m ++ [pc l n m] := by simp [pcs, List.range_succ]
def strLen : Value → Nat | .string r => r.size | _ => 0
theorem drop_ext (R : ByteArray) (l : List UInt8) (n k : Nat) (h : R.data.toList = l.drop (n * k)) : (R.extract n R.size).data.toList = l.drop (n * (k + 1)) := by
  have h9 : R.size = R.data.toList.length := rfl
  rw [ext_list, h9, h, List.drop_drop, List.take_of_length_le (by simp; omega), Nat.mul_succ]
theorem take_ext (R : ByteArray) (l : List UInt8) (n k : Nat) (h : R.data.toList = l.drop (n * k)) : R.extract 0 n = pc l n k := by
  apply ba_ext
  rw [ext_list, h]; rfl
theorem len_ext (R : ByteArray) (l : List UInt8) (n k : Nat) (h : R.data.toList = l.drop (n * k)) : R.size = l.length - n * k := by
  have h9 : R.size = R.data.toList.length := rfl
  rw [h9, h, List.length_drop]
theorem pc_rest (R : ByteArray) (l : List UInt8) (n k : Nat) (h : R.data.toList = l.drop (n * k)) (hs : R.size ≤ n) : R = pc l n k := by
  apply ba_ext
  have h9 : R.size = R.data.toList.length := rfl
  show _ = (l.drop (n * k)).take n
  rw [List.take_of_length_le (by rw [← h]; omega), h]
theorem ceil_last (S n k : Nat) (h1 : 1 ≤ n) (h2 : n * k < S) (h3 : S - n * k ≤ n) : (S + n - 1) / n = k + 1 := by
  have h4 : n * (k + 1) = n * k + n := Nat.mul_succ _ _
  rw [Nat.div_eq_of_lt_le]
  · rw [Nat.mul_comm]; omega
  · rw [Nat.mul_comm, Nat.mul_succ]; omega

set_option maxRecDepth 100000 in
set_option maxHeartbeats 1000000 in
theorem pieces_mak (s : ByteArray) (n : Nat) (h1 : 1 ≤ n) (hn : n ≤ 9223372036854775807) (hm : s.size ≤ 1099511627776) (L : List ByteArray) (hL : L = pcs s.data.toList n ((s.size + n - 1) / n)) : MakS 216 #[.string s, .int .i64 (n : Int)] L := by
  intro w
  have HL := Lib.hid hL
  clear hL
  have HM := Lib.hid hm
  go_enter Tryz.func216, Tryz.ntmps216
  go_wp2
  go_loopw [0, 5] (fun sv v wr => ∃ (k : Nat) (R : ByteArray), sv = .string R ∧ R.size ≤ 1099511627776 ∧ k ≤ 1099511627776 ∧ Hid (R.data.toList = s.data.toList.drop (n * k)) ∧ Hid (n * k < s.size ∨ k = 0) ∧ Hid (wr.ownsRow w.heap.size 9 1 v k ((pcs s.data.toList n k).map Value.string)) ∧ Hid (Since w wr)) (fun sv _ _ => strLen sv)
  case atStart => exact ⟨0, s, rfl, hm, by omega, Lib.hid (by simp), Lib.hid (Or.inr rfl), Lib.hid (World.ownsRow_nil _ _ _ _), Lib.hid (Since.refl w)⟩
  case round =>
    obtain ⟨k, R, rfl, hR, hk, HR, HK, HO, HS⟩ := hrel
    have hsz := len_ext R s.data.toList n k HR.out
    have hkk : k ≤ n * k := Nat.le_mul_of_pos_left _ h1
    by_cases hlt : n < R.size
    · have hn2 : n * (k + 1) < s.size := by
        have h9 : s.size = s.data.toList.length := rfl
        rw [Nat.mul_succ]; omega
      have hk2 : k + 1 ≤ 1099511627776 := by
        have h9 : k + 1 ≤ n * (k + 1) := Nat.le_mul_of_pos_left _ h1
        have := HM.out
        omega
      have hsz2 : (R.extract n R.size).size = R.size - n := by simp
      have HN2 := Lib.hid hn2
      have HT := Lib.hid (take_ext R _ n k HR.out)
      clear hn2 hsz hkk
      have hD := drop_ext R _ n k HR.out
      have HD := Lib.hid hD
      clear hD
      have Hsz2 := Lib.hid hsz2
      clear hsz2
      go_wp2_with (at_builtin; refine app_one elemS rfl _ _ rfl w wr _ k _ (by rfl) HO.out HS.out _ (by rfl) rfl hk (by decide) ?_)
      intro v' w2 hO2 hS2
      have HO2 := Lib.hid hO2
      clear hO2
      have HS2 := Lib.hid hS2
      clear hS2
      go_wp2_with fail
      go_roundw
      case rel => exact ⟨k + 1, _, rfl, by rw [Hsz2.out]; omega, by omega, HD, Lib.hid (Or.inl HN2.out), Lib.hid (by rw [pcs_succ, List.map_append, ← HT.out]; exact HO2.out), HS2⟩
      case measure => simp only [strLen]; rw [Hsz2.out]; omega
    · by_cases h0 : R.size = 0
      · have hk0 : k = 0 := by
          rcases HK.out with h | h
          · have h9 : s.size = s.data.toList.length := rfl
            omega
          · exact h
        subst hk0
        obtain rfl : R = ⟨#[]⟩ := ba_ext (List.eq_nil_of_length_eq_zero h0)
        have hs0 : s.size = 0 := by
          have h9 : s.size = s.data.toList.length := rfl
          simp at hsz
          omega
        have hL2 : L = [] := by rw [HL.out, hs0, Nat.div_eq_of_lt (by omega)]; rfl
        subst hL2
        have Hs0 := Lib.hid hs0
        clear hs0
        have Hsz := Lib.hid hsz
        clear hsz
        have Hkk := Lib.hid hkk
        clear hkk
        go_wp2_with fail
        go_ret
        exact ⟨_, rfl, HO.out, HS.out⟩
      · have hne := some_bytes R (by omega)
        have hpc := pc_rest R _ n k HR.out (by omega)
        have hlt2 : n * k < s.size := by
          rcases HK.out with h | h
          · exact h
          · subst h
            have h9 : s.size = s.data.toList.length := rfl
            simp at hsz ⊢
            omega
        have hL2 : L = pcs s.data.toList n k ++ [R] := by
          have h9 : s.size = s.data.toList.length := rfl
          rw [HL.out, ceil_last s.size n k h1 hlt2 (by omega), pcs_succ, ← hpc]
        subst hL2
        have Hpc := Lib.hid hpc
        clear hpc
        have Hlt2 := Lib.hid hlt2
        clear hlt2
        have Hsz := Lib.hid hsz
        clear hsz
        have Hkk := Lib.hid hkk
        clear hkk
        go_wp2_with (at_builtin; refine app_one elemS rfl _ _ rfl w wr _ k _ (by rfl) HO.out HS.out _ (by rfl) rfl hk (by decide) ?_)
        intro v' w2 hO2 hS2
        have HO2 := Lib.hid hO2
        clear hO2
        have HS2 := Lib.hid hS2
        clear hS2
        go_wp2_with fail
        go_ret
        exact ⟨_, rfl, by have h7 := HO2.out; unfold Strs; rw [List.map_append, List.length_append, pcs_len]; exact h7, HS2.out⟩

/-- a text without the zero bytes ahead -/
def trimL (l : List UInt8) : List UInt8 := l.dropWhile (· == 0)
end Oct
end Go.Proofs.YtddlaafpianjbaaGreatDoor

/- The reference's Cut, Pieces, Zeros, Pad, Trim. -/
namespace Go.Proofs.YtddlaafpianjbaaGreatDoor
open Go.RowKit
namespace RefOct

end RefOct
end Go.Proofs.YtddlaafpianjbaaGreatDoor
