/- Joined texts. -/
-- PACK: YtddlaafpianjbaaGreatDoorOptAw2 YtddlaafpianjbaaGreatDoorOptArg
import Derived.Test.YtddlaafpianjbaaGreatDoorBb42
import Derived.OpenShut

/- Package option: what the laws of layer 32 call awake. -/
namespace Go.Proofs.YtddlaafpianjbaaGreatDoor
open Go.RowKit
namespace Opt
end Opt
end Go.Proofs.YtddlaafpianjbaaGreatDoor

/- Package option: options among the arguments of a law. -/
namespace Go.Proofs.YtddlaafpianjbaaGreatDoor
open Go.RowKit Go.Deep
namespace Opt
theorem unp_some (s : ByteArray) (m : Int) (L : List P2) (A : Nat) (h : unpOk s m = some (L, A)) : packOk L = true ∧ (cntP L : Int) = m ∧ packX L = s.extract 0 A ∧ A ≤ s.size ∧ L.length ≤ 98 ∧ ∀ p ∈ L, p.1.size ≤ s.size ∧ p.2.size ≤ s.size := by
  unfold unpOk at h
  cases hd : decs s m.toNat with
  | none => rw [hd] at h; cases h
  | some q =>
    obtain ⟨L', A'⟩ := q
    rw [hd] at h
    have h2 : (if packOk (trimP L') = true ∧ (cntP (trimP L') : Int) = m ∧ packX (trimP L') = s.extract 0 A' then some (trimP L', A') else none) = some (L, A) := h
    split at h2
    · rename_i hc
      simp only [Option.some.injEq, Prod.mk.injEq] at h2
      obtain ⟨rfl, rfl⟩ := h2
      obtain ⟨h3, h4, h5⟩ := decs_len s _ _ _ hd
      have h6 := decs_sizes s _ _ _ hd
      refine ⟨hc.1, hc.2.1, hc.2.2, h4, ?_, fun p hp => h6 p ?_⟩
      · have hk := hc.1
        unfold packOk at hk
        rw [Bool.and_eq_true, Bool.and_eq_true] at hk
        have := of_decide_eq_true hk.1.2
        unfold cntP at this
        omega
      · unfold trimP at hp
        split at hp
        · rw [List.dropLast_eq_take] at hp; exact List.mem_of_mem_take hp
        · exact hp
    · cases h2
end Opt
end Go.Proofs.YtddlaafpianjbaaGreatDoor
