/- The walks of the reference of package digits: Value and Unhex. -/
import Derived.Test.YtoblmddnefmpoaaBase
import Derived.Test.YtoblmddnefmpoaaStr
import Derived.Test.YtoblmddnefmpoaaDigM
import Derived.Laws.BytesArg
import Derived.Deep.QuietTactic
import Derived.BigQuiet
import Derived.Deep.OwnRows
import Derived.Deep.Draws
namespace Go.Proofs.Ytoblmddnefmpoaa
open Go.RowKit
namespace RefDig

set_option maxHeartbeats 400000 in
theorem value_any (c : Nat) (w : World) (hc : c < 256) (V : Int) (hV : V = Dig.val c) :
    Calls Try.prog 90 #[.int .u8 (c : Int)] w fun e w' => e = .returned (.int .i64 V) ∧ w = w' := by
  have HV := Lib.hid hV
  clear hV
  go_enter Try.func90, Try.ntmps90
  go_wp2
  go_loop [3] (fun i => ∃ k : Nat, k ≤ 16 ∧ i = .int .i64 (k : Int) ∧ Hid (∀ j, j < k → (Dig.sign j).toNat ≠ c)) (fun i => 16 - (intOf i).toNat)
  case atStart => exact ⟨0, by omega, rfl, Lib.hid (fun j hj => by omega)⟩
  case round =>
    obtain ⟨k, hk, rfl, HN⟩ := hrel
    by_cases hlt : k < 16
    · have hsg := Dig.sign_at k hlt
      have HSG := Lib.hid hsg
      obtain ⟨d, hd⟩ : ∃ d, d = (Dig.sign k).toNat := ⟨_, rfl⟩
      have hdd := congrArg UInt8.toNat hsg
      rw [← hd] at hdd
      have HD := Lib.hid hd
      have hd256 : d < 256 := by rw [hd]; exact (Dig.sign k).toNat_lt
      clear hsg hd
      by_cases heq : d = c
      · have hval := Dig.val_sign c k hlt (by rw [← HD.out]; exact heq)
        have hV0 : V = (k : Int) := by rw [HV.out, hval]
        subst heq
        have HV0 := Lib.hid hV0
        clear hV0 hval
        go_wp2_with fail
        go_ret
        rw [HV0.out]
        exact ⟨rfl, rfl⟩
      · have hb : ((d : Int) == (c : Int)) = false := by rw [beq_eq_false_iff_ne]; omega
        have HE := Lib.hid heq
        clear heq
        go_wp2_with fail
        go_round
        case rel =>
          refine ⟨k + 1, by omega, by go_num, Lib.hid (fun j hj => ?_)⟩
          by_cases hjk : j < k
          · exact HN.out j hjk
          · obtain rfl : j = k := by omega
            rw [← HD.out]; exact HE.out
        case measure => simp [intOf]; omega
    · obtain rfl : k = 16 := by omega
      have hV0 : V = -1 := by rw [HV.out, Dig.val_none c hc HN.out]
      subst hV0
      go_wp2_with fail
      go_ret
      exact ⟨rfl, rfl⟩

theorem qval (c : Nat) (hc : c < 256) (h : Int) (hh : Dig.val c = h) (W : World) : Calls Try.prog 90 #[.int .u8 (c : Int)] W fun e w' => e = .returned (.int .i64 h) ∧ w' = W :=
  (value_any c W hc h hh.symm).mono fun _ _ ⟨he, hw⟩ => ⟨he, hw.symm⟩

end RefDig
end Go.Proofs.Ytoblmddnefmpoaa
