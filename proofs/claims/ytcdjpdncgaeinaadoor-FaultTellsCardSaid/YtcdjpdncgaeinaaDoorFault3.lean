/- Package fault: All, First; slices.Contains; what the law calls awake. -/
import Derived.Test.YtcdjpdncgaeinaaDoorFault2
import Derived.Test.YtcdjpdncgaeinaaDoorMemA
namespace Go.Proofs.YtcdjpdncgaeinaaDoor
open Go.RowKit
namespace Fault

theorem elemI : ElemIs 29 22 (.int .i64 0) 1 8 := ⟨Tryd.underlying29, by kernel_rfl, rfl, by decide⟩
def allV (k : Nat) : List Value := (List.range k).map fun (i : Nat) => Value.int .i64 (i : Int)
theorem allV_succ (k : Nat) : allV (k + 1) = allV k ++ [.int .i64 (k : Int)] := by simp [allV, List.range_succ]
set_option maxHeartbeats 1000000 in
theorem all_any (w : World) : Calls Tryd.prog 14 #[] w fun e w' => ∃ v, e = .returned v ∧ w'.ownsRow w.heap.size 22 1 v 18 (allV 18) ∧ Below w.heap.size w w' := by
  go_enter Tryd.func14, Tryd.ntmps14
  go_wp2_with fail
  go_loopw [1, 3] (fun v i wr => ∃ k : Nat, k ≤ 18 ∧ i = .int .i64 (k : Int) ∧ Hid (wr.ownsRow w.heap.size 22 1 v k (allV k)) ∧ Hid (Since w wr)) (fun _ i _ => 18 - (intOf i).toNat)
  case atStart => exact ⟨0, by omega, rfl, Lib.hid (World.ownsRow_nil _ _ _ _), Lib.hid (Since.refl w)⟩
  case round =>
    obtain ⟨k, hk, rfl, HO, HS⟩ := hrel
    by_cases hlt : k < 18
    · have hk9 : k ≤ 1099511627776 := by omega
      go_wp2_with (at_builtin; refine app_one elemI rfl _ _ (by rfl) w wr _ k _ (by rfl) HO.out HS.out _ (by rfl) rfl hk9 (by decide) ?_)
      intro v' w2 hO2 hS2
      have HO2 := Lib.hid hO2
      clear hO2
      have HS2 := Lib.hid hS2
      clear hS2
      go_wp2_with fail
      go_roundw
      case rel => exact ⟨k + 1, by omega, by go_num, Lib.hid (by rw [allV_succ]; exact HO2.out), HS2⟩
      case measure => simp [intOf]; omega
    · obtain rfl : k = 18 := by omega
      go_wp2_with fail
      go_ret
      exact ⟨_, rfl, HO.out, HS.out⟩
end Fault
end Go.Proofs.YtcdjpdncgaeinaaDoor
