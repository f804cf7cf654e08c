/- Joined texts. -/
-- PACK: YtgfdomdbjiflmaaGreatDoorRefSbox2
import Derived.Test.YtgfdomdbjiflmaaGreatDoorKv13
import Derived.Test.YtgfdomdbjiflmaaGreatDoorKv9
import Derived.Test.YtgfdomdbjiflmaaGreatDoorKv11

/- The reference of package sbox: Subs, Backs, Table. -/
namespace Go.Proofs.YtgfdomdbjiflmaaGreatDoor
open Go.RowKit
namespace RefSbox
open Sbox (Rdr sub back sub_lt back_lt)

theorem nums_snoc (xs : List Int) (x : Int) : strOfNums xs ++ strOfNums [x] = strOfNums (xs ++ [x]) := by
  apply ba_ext
  rw [app_list, nums_list, nums_list, nums_list, List.map_append]
set_option maxRecDepth 100000 in
set_option maxHeartbeats 2000000 in
theorem subs_mak (s : ByteArray) (hm : s.size ≤ 1000000) : Mak 124 #[.string s] (.string (strOfNums (s.data.toList.map fun c => ((sub c.toNat : Nat) : Int)))) := by
  intro w
  obtain ⟨X, hX⟩ : ∃ X, X = strOfNums (s.data.toList.map fun c => ((sub c.toNat : Nat) : Int)) := ⟨_, rfl⟩
  rw [← hX]
  have HX := Lib.hid hX
  clear hX
  go_enter Tryz.func124, Tryz.ntmps124
  go_wp2_with fail
  go_loopw [3, 4] (fun o i wr => ∃ (k : Nat) (S : ByteArray), k ≤ s.size ∧ i = .int .i64 (k : Int) ∧ o = .string S ∧ S.size = k ∧ Hid (S = strOfNums ((s.data.toList.take k).map fun c => ((sub c.toNat : Nat) : Int))) ∧ Hid (Since w wr)) (fun _ i _ => s.size - (intOf i).toNat)
  case atStart => exact ⟨0, ⟨#[]⟩, Nat.zero_le _, rfl, rfl, rfl, Lib.hid rfl, Lib.hid (Since.refl w)⟩
  case round =>
    obtain ⟨k, S, hk, rfl, rfl, hS, HSS, HS⟩ := hrel
    by_cases hlt : k < s.size
    · have hc := s[k].toNat_lt
      have c1 := (sub_rdr s[k].toNat (by omega)).mak
      have hv := sub_lt s[k].toNat
      have htk : (s.data.toList.take (k + 1)).map (fun c => ((sub c.toNat : Nat) : Int)) = (s.data.toList.take k).map (fun c => ((sub c.toNat : Nat) : Int)) ++ [((sub s[k].toNat : Nat) : Int)] := by
        rw [List.take_succ_eq_append_getElem (show k < s.data.toList.length from hlt), List.map_append]; rfl
      generalize sub s[k].toNat = v at *
      have HT := Lib.hid htk
      clear htk
      have hsz : ¬ 9223372036854775807 < S.size + (strOfNums [(v : Int)]).size := by rw [strOfNums_size]; simp; omega
      go_wp2_with fail
      refine (c1).calls HS.out ?_
      intro w1 h1
      have H1 := Lib.hid h1
      clear h1
      have g := conv_lit w1 w1.heap.size rfl [(v : Int)] 1 rfl #[.int .u8 (v : Int)] rfl
      go_wp2_with fail
      go_roundw
      case rel =>
        refine ⟨k + 1, _, by omega, by go_num, rfl, ?_, Lib.hid ?_, Lib.hid (H1.out.alloc _)⟩
        · have h8 := congrArg List.length (app_list S (strOfNums [(v : Int)]))
          rw [List.length_append] at h8
          have h9 : (S ++ strOfNums [(v : Int)]).size = (S ++ strOfNums [(v : Int)]).data.toList.length := rfl
          rw [h9, h8]
          show S.size + 1 = k + 1
          omega
        · rw [HT.out, HSS.out, nums_snoc]
      case measure => simp [intOf]; omega
    · have hXS : X = S := by rw [HX.out, HSS.out, List.take_of_length_le (show s.data.toList.length ≤ k by have h9 : s.size = s.data.toList.length := rfl; omega)]
      subst hXS
      go_wp2_with fail
      go_ret
      exact ⟨rfl, HS.out⟩

end RefSbox
end Go.Proofs.YtgfdomdbjiflmaaGreatDoor
