/- Joined texts. -/
-- PACK: YtlmnidpcdibnkaaDoorRefDig
import Derived.Test.YtlmnidpcdibnkaaDoorHq2
import Derived.Test.YtlmnidpcdibnkaaDoorHq1
import Derived.Test.YtlmnidpcdibnkaaDoorHq3
import Derived.Laws.BytesArg
import Derived.Deep.QuietTactic
import Derived.BigQuiet
import Derived.Deep.OwnRows
import Derived.Deep.Draws

/- The walks of the reference of package digits: Value and Unhex. -/
namespace Go.Proofs.YtlmnidpcdibnkaaDoor
open Go.RowKit
namespace RefDig

set_option maxRecDepth 100000 in
set_option maxHeartbeats 400000 in
theorem value_any (c : Nat) (w : World) (hc : c < 256) (V : Int) (hV : V = Dig.val c) :
    Calls Tryd.prog 46 #[.int .u8 (c : Int)] w fun e w' => e = .returned (.int .i64 V) ∧ w = w' := by
  have HV := Lib.hid hV
  clear hV
  go_enter Tryd.func46, Tryd.ntmps46
  go_wp2
  go_loop [3] (fun i => ∃ k : Nat, k ≤ 16 ∧ i = .int .i64 (k : Int) ∧ Hid (∀ j, j < k → (Dig.sign j).toNat ≠ c)) (fun i => 16 - (intOf i).toNat)
  case atStart => exact ⟨0, by omega, rfl, Lib.hid (fun j hj => by omega)⟩
  case round =>
    obtain ⟨k, hk, rfl, HN⟩ := hrel
    by_cases hlt : k < 16
    · have hsg := Dig.sign_at k hlt
      have HSG := Lib.hid hsg
      obtain ⟨d, hd⟩ : ∃ d, d = (Dig.sign k).toNat := ⟨_, rfl⟩
      have hdd := congrArg UInt8.toNat hsg
      rw [← hd] at hdd
      have HD := Lib.hid hd
      have hd256 : d < 256 := by rw [hd]; exact (Dig.sign k).toNat_lt
      clear hsg hd
      by_cases heq : d = c
      · have hval := Dig.val_sign c k hlt (by rw [← HD.out]; exact heq)
        have hV0 : V = (k : Int) := by rw [HV.out, hval]
        subst heq
        have HV0 := Lib.hid hV0
        clear hV0 hval
        go_wp2_with fail
        go_ret
        rw [HV0.out]
        exact ⟨rfl, rfl⟩
      · have hb : ((d : Int) == (c : Int)) = false := by rw [beq_eq_false_iff_ne]; omega
        have HE := Lib.hid heq
        clear heq
        go_wp2_with fail
        go_round
        case rel =>
          refine ⟨k + 1, by omega, by go_num, Lib.hid (fun j hj => ?_)⟩
          by_cases hjk : j < k
          · exact HN.out j hjk
          · obtain rfl : j = k := by omega
            rw [← HD.out]; exact HE.out
        case measure => simp [intOf]; omega
    · obtain rfl : k = 16 := by omega
      have hV0 : V = -1 := by rw [HV.out, Dig.val_none c hc HN.out]
      subst hV0
      go_wp2_with fail
      go_ret
      exact ⟨rfl, rfl⟩

set_option maxRecDepth 100000 in
theorem qval (c : Nat) (hc : c < 256) (h : Int) (hh : Dig.val c = h) (W : World) : Calls Tryd.prog 46 #[.int .u8 (c : Int)] W fun e w' => e = .returned (.int .i64 h) ∧ w' = W :=
  (value_any c W hc h hh.symm).mono fun _ _ ⟨he, hw⟩ => ⟨he, hw.symm⟩

theorem sign_cut (d : Nat) (h : d < 16) : (⟨#[48, 49, 50, 51, 52, 53, 54, 55, 56, 57, 65, 66, 67, 68, 69, 70]⟩ : ByteArray).extract d (d + 1) = bs [Dig.sign d] := by
  rcases (show d = 0 ∨ d = 1 ∨ d = 2 ∨ d = 3 ∨ d = 4 ∨ d = 5 ∨ d = 6 ∨ d = 7 ∨ d = 8 ∨ d = 9 ∨ d = 10 ∨ d = 11 ∨ d = 12 ∨ d = 13 ∨ d = 14 ∨ d = 15 by omega) with rfl | rfl | rfl | rfl | rfl | rfl | rfl | rfl | rfl | rfl | rfl | rfl | rfl | rfl | rfl | rfl <;> rfl
theorem hex_snoc (l : List UInt8) (c : UInt8) : Dig.hexL (l ++ [c]) = Dig.hexL l ++ [Dig.sign (c.toNat / 16), Dig.sign (c.toNat % 16)] := by
  unfold Dig.hexL; rw [List.flatMap_append]; rfl

end RefDig
end Go.Proofs.YtlmnidpcdibnkaaDoor
