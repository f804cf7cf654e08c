/- Joined texts. -/
-- PACK: YtddlaafpianjbaaDoorEqS2
import Derived.Test.YtddlaafpianjbaaDoorUs21
import Derived.Test.YtddlaafpianjbaaDoorUs4
import Derived.Test.YtddlaafpianjbaaDoorUs13

/- slices.Equal of strings (where Kcv does not stand). -/
namespace Go.Proofs.YtddlaafpianjbaaDoor
open Go.RowKit
namespace EqS
theorem belowE (w : World) (q : Nat) : Below w.heap.size w (w.drewN q) := ⟨rfl, rfl, rfl, Nat.le_refl _, fun _ _ => rfl⟩
set_option maxRecDepth 100000 in
theorem equals (w : World) (x y : Value) (l m : List ByteArray) (hx : StrsS w x l) (hy : StrsS w y m) : Calls Tryd.prog 7 #[x, y] w fun e w' => e = .returned (.bool (decide (l = m))) ∧ Since w w' := by
  obtain ⟨A, c, hxv, _, _⟩ := SlR.slice hx
  obtain ⟨B, d, hyv, _, _⟩ := SlR.slice hy
  have hm := SlR.le hy
  have hl := SlR.le hx
  by_cases hne : l.length = m.length
  · by_cases h0 : l.length = 0
    · have e1 := List.length_eq_zero_iff.1 h0
      have e2 := List.length_eq_zero_iff.1 (hne.symm.trans h0)
      subst e1 e2
      subst hxv hyv
      exact (Tryd.slices_Equal_string_empty A B c 0 d w (by decide)).mono fun e w' ⟨he, hw⟩ => by subst hw; exact ⟨he, Since.refl _⟩
    · obtain ⟨b1, o1, c1, rfl, _, _, _, g4⟩ := StrsS.form hx (by omega)
      obtain ⟨b2, o2, c2, rfl, _, _, _, k4⟩ := StrsS.form hy (by omega)
      have h := Tryd.slices_Equal_string b1 o1 l.length c1 b2 o2 m.length c2 l m w (Nat.le_refl _) (Nat.le_refl _) hl hm
        (fun j hj => by rw [g4 j hj]; rfl)
        (fun j hj => by rw [k4 j hj]; rfl)
      rw [List.take_length, List.take_length] at h
      exact h.mono fun e w' ⟨he, q, hw⟩ => by subst hw; exact ⟨he, belowE _ _⟩
  · subst hxv hyv
    exact (Tryd.slices_Equal_string_lens A B l.length c m.length d w hne).mono fun e w' ⟨he, hw⟩ => by
      subst hw
      refine ⟨?_, Since.refl _⟩
      rw [he, decide_eq_false (fun e => hne (by rw [e]))]
end EqS
end Go.Proofs.YtddlaafpianjbaaDoor
