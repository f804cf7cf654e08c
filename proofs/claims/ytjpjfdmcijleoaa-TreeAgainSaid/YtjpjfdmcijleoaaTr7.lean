/- Joined texts. -/
-- PACK: YtjpjfdmcijleoaaSlEq YtjpjfdmcijleoaaRefPrn YtjpjfdmcijleoaaRefDig
import Derived.Test.YtjpjfdmcijleoaaTr4
import Derived.Deep.QuietTactic
import Derived.BigQuiet
import Derived.Test.YtjpjfdmcijleoaaTr2
import Derived.LoopTactic
import Derived.Test.YtjpjfdmcijleoaaTr3
import Derived.Laws.BytesArg
import Derived.Deep.OwnRows
import Derived.Deep.Draws

/- slices.Equal of slices of strings. -/
namespace Go.Proofs.Ytjpjfdmcijleoaa
open Go.RowKit

theorem since_drewN {W0 w : World} (h : Since W0 w) (n : Nat) : Since W0 (w.drewN n) := h.step ⟨rfl, rfl, rfl, Nat.le_refl _, fun _ _ => rfl⟩

theorem cell_since {w wr : World} {ad : Addr} {i : Nat} {v : Value} (h : Since w wr) (hb : ad.block < w.heap.size) (hc : w.cell? (ad.add i) = some v) : wr.cell? (ad.add i) = some v :=
  (h.below.cell (by rw [show (ad.add i).block = ad.block from by unfold Addr.add; split <;> rfl]; exact hb)).trans hc

theorem take_eq_snoc (ss tt : List ByteArray) (k : Nat) (h1 : k < ss.length) (h2 : k < tt.length) (h : ss.take k = tt.take k) (he : ss.getD k ⟨#[]⟩ = tt.getD k ⟨#[]⟩) : ss.take (k + 1) = tt.take (k + 1) := by
  rw [List.take_succ_eq_append_getElem h1, List.take_succ_eq_append_getElem h2, h]
  simp [List.getD, List.getElem?_eq_getElem h1, List.getElem?_eq_getElem h2] at he
  rw [he]

end Go.Proofs.Ytjpjfdmcijleoaa

/- The reference of strs.Printable. -/
namespace Go.Proofs.Ytjpjfdmcijleoaa
open Go.RowKit
namespace Prn

/-- what a PrintableString can have -/
def allB : List UInt8 := [65, 66, 67, 68, 69, 70, 71, 72, 73, 74, 75, 76, 77, 78, 79, 80, 81, 82, 83, 84, 85, 86, 87, 88, 89, 90, 97, 98, 99, 100, 101, 102, 103, 104, 105, 106, 107, 108, 109, 110, 111, 112, 113, 114, 115, 116, 117, 118, 119, 120, 121, 122, 48, 49, 50, 51, 52, 53, 54, 55, 56, 57, 32, 39, 40, 41, 43, 44, 45, 46, 47, 58, 61, 63]
def sAll : ByteArray := ⟨List.toArray (65 :: 66 :: 67 :: 68 :: 69 :: 70 :: 71 :: 72 :: 73 :: 74 :: 75 :: 76 :: 77 :: 78 :: 79 :: 80 :: 81 :: 82 :: 83 :: 84 :: 85 :: 86 :: 87 :: 88 :: 89 :: 90 :: 97 :: 98 :: 99 :: 100 :: 101 :: 102 :: 103 :: 104 :: 105 :: 106 :: 107 :: 108 :: 109 :: 110 :: 111 :: 112 :: 113 :: 114 :: 115 :: 116 :: 117 :: 118 :: 119 :: 120 :: 121 :: 122 :: 48 :: 49 :: 50 :: 51 :: 52 :: 53 :: 54 :: 55 :: 56 :: 57 :: 32 :: 39 :: 40 :: 41 :: 43 :: 44 :: 45 :: 46 :: 47 :: 58 :: 61 :: 63 :: [])⟩
theorem sAll_size : sAll.size = 74 := rfl
theorem sAll_list : sAll.data.toList = allB := rfl
theorem take_any (c : UInt8) (m : Nat) (h : m < sAll.size) : (allB.take (m + 1)).any (· == c) = ((allB.take m).any (· == c) || sAll[m] == c) := by
  have h2 : m < allB.length := h
  rw [List.take_add_one, List.getElem?_eq_getElem h2, List.any_append]
  show _ = (_ || allB[m] == c)
  simp
def okc (c : UInt8) : Bool := allB.any (· == c)
def prnB (l : List UInt8) : Bool := l.all okc
set_option maxRecDepth 100000 in
set_option maxHeartbeats 1000000 in
theorem prn_mak (s : ByteArray) (hm : s.size ≤ 1000000) (q : Bool) (hq : q = prnB s.data.toList) : Mak 67 #[.string s] (.bool q) := by
  intro w
  have HS := Lib.hid (Since.refl w)
  have HQ := Lib.hid hq
  clear hq
  go_enter Try.func67, Try.ntmps67
  go_wp2_with fail
  go_loopw [3, 4, 5] (fun i _ _ wr => ∃ k : Nat, k ≤ s.size ∧ i = .int .i64 (k : Int) ∧ Hid (q = prnB (s.data.toList.drop k)) ∧ Hid (Since w wr)) (fun i _ _ _ => s.size - (intOf i).toNat)
  case atStart => exact ⟨0, by omega, rfl, by rw [List.drop_zero]; exact HQ, HS⟩
  case round =>
    clear HQ HS
    obtain ⟨k, hk, rfl, HQ, HS⟩ := hrel
    by_cases hlt : k < s.size
    · obtain ⟨c, hc⟩ : ∃ c, c = s[k] := ⟨_, rfl⟩
      have hst : q = (okc c && prnB (s.data.toList.drop (k + 1))) := by
        rw [HQ.out, hc, List.drop_eq_getElem_cons (show k < s.data.toList.length from hlt)]; rfl
      have HC := Lib.hid hc
      have HQ2 := Lib.hid hst
      clear HQ hst hc
      go_wp2_with fail
      go_loopw [4, 5] (fun f j wr2 => ∃ m : Nat, m ≤ 74 ∧ j = .int .i64 (m : Int) ∧ f = .bool ((allB.take m).any (· == c)) ∧ Hid (Since w wr2)) (fun _ j _ => 74 - (intOf j).toNat)
      case atStart => exact ⟨0, by omega, rfl, rfl, HS⟩
      case round =>
        clear HS
        obtain ⟨m, hm9, rfl, rfl, HS⟩ := hrel
        by_cases hl2 : m < 74
        · have hz : m < sAll.size := by rw [sAll_size]; exact hl2
          obtain ⟨f, hf⟩ : ∃ f, f = (allB.take m).any (· == c) := ⟨_, rfl⟩
          have hn := take_any c m hz
          rw [← hf] at hn ⊢
          have hb : (((sAll[m]'hz).toNat : Int) == (s[k].toNat : Int)) = (sAll[m] == c) := by
            rw [HC.out, Bool.eq_iff_iff, beq_iff_eq, beq_iff_eq]
            exact ⟨fun h => UInt8.toNat_inj.1 (Int.ofNat.inj h), fun h => by rw [h]⟩
          obtain ⟨g, hg⟩ : ∃ g, g = (sAll[m] == c) := ⟨_, rfl⟩
          rw [← hg] at hb hn
          have HN := Lib.hid hn
          clear hn hf hg
          unfold sAll at hz hb
          cases g with
          | false =>
            go_wp2_with fail
            go_quiet (fail)
            go_wp2_with fail
            go_roundw
            case rel => exact ⟨m + 1, by omega, by go_num, by rw [HN.out, Bool.or_false], Lib.hid (Since.step HS.out ⟨rfl, rfl, rfl, Nat.le_refl _, fun _ _ => rfl⟩)⟩
            case measure => simp [intOf]; omega
          | true =>
            go_wp2_with fail
            go_quiet (fail)
            go_wp2_with fail
            go_roundw
            case rel => exact ⟨m + 1, by omega, by go_num, by rw [HN.out, Bool.or_true], Lib.hid (Since.step HS.out ⟨rfl, rfl, rfl, Nat.le_refl _, fun _ _ => rfl⟩)⟩
            case measure => simp [intOf]; omega
        · obtain rfl : m = 74 := by omega
          rw [show (allB.take 74).any (· == c) = okc c from rfl]
          cases ho : okc c with
          | false =>
            have hq := HQ2.out
            rw [ho, Bool.false_and] at hq
            subst hq
            go_wp2_with fail
            go_ret
            exact ⟨rfl, HS.out⟩
          | true =>
            have hq := HQ2.out
            rw [ho, Bool.true_and] at hq
            go_wp2_with fail
            go_roundw
            case rel => exact ⟨k + 1, by omega, by go_num, Lib.hid hq, HS⟩
            case measure => simp [intOf]; omega
    · obtain rfl : q = true := by
        rw [HQ.out, List.drop_eq_nil_of_le (by have : s.data.toList.length = s.size := rfl; omega)]; rfl
      go_wp2_with fail
      go_ret
      exact ⟨rfl, HS.out⟩
end Prn
end Go.Proofs.Ytjpjfdmcijleoaa

/- The walks of the reference of package digits: Value and Unhex. -/
namespace Go.Proofs.Ytjpjfdmcijleoaa
open Go.RowKit
namespace RefDig

theorem sign_cut (d : Nat) (h : d < 16) : (⟨#[48, 49, 50, 51, 52, 53, 54, 55, 56, 57, 65, 66, 67, 68, 69, 70]⟩ : ByteArray).extract d (d + 1) = bs [Dig.sign d] := by
  rcases (show d = 0 ∨ d = 1 ∨ d = 2 ∨ d = 3 ∨ d = 4 ∨ d = 5 ∨ d = 6 ∨ d = 7 ∨ d = 8 ∨ d = 9 ∨ d = 10 ∨ d = 11 ∨ d = 12 ∨ d = 13 ∨ d = 14 ∨ d = 15 by omega) with rfl | rfl | rfl | rfl | rfl | rfl | rfl | rfl | rfl | rfl | rfl | rfl | rfl | rfl | rfl | rfl <;> rfl
theorem hex_snoc (l : List UInt8) (c : UInt8) : Dig.hexL (l ++ [c]) = Dig.hexL l ++ [Dig.sign (c.toNat / 16), Dig.sign (c.toNat % 16)] := by
  unfold Dig.hexL; rw [List.flatMap_append]; rfl

end RefDig
end Go.Proofs.Ytjpjfdmcijleoaa
