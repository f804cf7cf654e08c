/- Joined texts. -/
-- PACK: YtlmnidpcdibnkaaDoorPlainH
import Derived.Test.YtlmnidpcdibnkaaDoorTp2
import Derived.Test.YtlmnidpcdibnkaaDoorTp1

/- clavigerplain: Head. -/
namespace Go.Proofs.YtlmnidpcdibnkaaDoor
open Go.RowKit
namespace Plain
/-- are a header's fields short? -/
def headB (u m v e : ByteArray) : Bool := decide (u.size ≤ 20) && decide (m.size ≤ 20) && decide (v.size ≤ 20) && decide (e.size ≤ 20)
set_option maxRecDepth 100000 in
set_option maxHeartbeats 1000000 in
theorem head_core (u m v e : ByteArray) (q1 q2 q3 q4 : Bool) (k1 : decide ((u.size : Int) ≤ 20) = q1) (k2 : decide ((m.size : Int) ≤ 20) = q2) (k3 : decide ((v.size : Int) ≤ 20) = q3) (k4 : decide ((e.size : Int) ≤ 20) = q4) : Mak 7 #[.agg #[.string u, .string m, .string v, .string e]] (.bool (q1 && q2 && q3 && q4)) := by
  intro w
  have HS := Lib.hid (Since.alloc (Since.refl w) (.cells #[.string u, .string m, .string v, .string e] 23))
  cases q1
  · go_enter Tryd.func7, Tryd.ntmps7
    go_wp2_with fail
    go_ret
    exact ⟨rfl, HS.out⟩
  · cases q2
    · go_enter Tryd.func7, Tryd.ntmps7
      go_wp2_with fail
      go_ret
      exact ⟨rfl, HS.out⟩
    · cases q3
      · go_enter Tryd.func7, Tryd.ntmps7
        go_wp2_with fail
        go_ret
        exact ⟨rfl, HS.out⟩
      · go_enter Tryd.func7, Tryd.ntmps7
        go_wp2_with fail
        go_ret
        exact ⟨rfl, HS.out⟩
theorem head_mak (u m v e : ByteArray) (q : Bool) (hq : q = headB u m v e) : Mak 7 #[.agg #[.string u, .string m, .string v, .string e]] (.bool q) := by
  have h := head_core u m v e _ _ _ _ rfl rfl rfl rfl
  have e9 : ∀ s : ByteArray, decide ((s.size : Int) ≤ 20) = decide (s.size ≤ 20) := fun s => by rw [Bool.eq_iff_iff, decide_eq_true_iff, decide_eq_true_iff]; omega
  rw [e9, e9, e9, e9] at h
  rw [hq]
  exact h
end Plain
end Go.Proofs.YtlmnidpcdibnkaaDoor
