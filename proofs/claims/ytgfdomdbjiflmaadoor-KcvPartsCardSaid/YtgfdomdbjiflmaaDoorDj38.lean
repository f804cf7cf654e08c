/- Joined texts. -/
-- PACK: YtgfdomdbjiflmaaDoorRefRnd
import Derived.Test.YtgfdomdbjiflmaaDoorDj35
import Derived.Test.YtgfdomdbjiflmaaDoorDj3
import Derived.Test.YtgfdomdbjiflmaaDoorDj19
import Derived.Test.YtgfdomdbjiflmaaDoorDj22
import Derived.Test.YtgfdomdbjiflmaaDoorDj23
import Derived.Deep.QuietTactic
import Derived.BigQuiet
import Derived.IntWalk
import Derived.Laws.BitsAllLaws

/- The reference of package round. -/
namespace Go.Proofs.YtgfdomdbjiflmaaDoor
open Go.RowKit
namespace RefRnd
open Rnd

theorem take_snoc (L : List UInt8) (k : Nat) (h : k < L.length) : L.take (k + 1) = L.take k ++ [UInt8.ofNat (ent L k)] := by
  rw [List.take_succ_eq_append_getElem h]
  simp [ent, List.getD, List.getElem?_eq_getElem h]
def movL (n : Nat) (l : List UInt8) : List UInt8 := pickL (fun r c => (c + n * r) % 4) l
theorem mov1 (l : List UInt8) : movL 1 l = shiftL l := by
  unfold movL shiftL; simp only [Nat.one_mul]
theorem mov3 (l : List UInt8) : movL 3 l = unshiftL l := by
  refine ext16 _ _ (pickL_len _ _) (pickL_len _ _) fun i hi => ?_
  unfold movL unshiftL
  rw [pick_ent _ _ _ hi, pick_ent _ _ _ hi]
  congr 1
  omega
def facS (f : Nat → Nat) (B : ByteArray) : Prop := B.size = 4 ∧ ∀ (j : Nat) (h : j < B.size), B[j].toNat = f j
set_option maxRecDepth 100000 in
theorem conv_any (x : Int) (S : ByteArray) (hS : strOfNums [x] = S) : ∀ (W : World) (g : Nat), W.cell? ⟨g, 0, none⟩ = some (.int .u8 x) → ∀ dst, Tryd.prog.underlying dst = some .string → (convert 97 dst (.slice (some ⟨g, 0, none⟩) 1 1)).run Tryd.prog W = .ok (.string S) W := by
  subst hS
  intro W g hc
  refine run_convert_bytes_arg (P := Tryd.prog) W 97 5 Tryd.underlying97 Tryd.underlying5 g 0 1 1 [x] rfl fun i hi => ?_
  obtain rfl : i = 0 := by omega
  exact hc
theorem one_num (n : Nat) : strOfNums [(n : Int)] = bs [UInt8.ofNat n] := rfl
theorem fac_mix : facS mixF ⟨#[2, 3, 1, 1]⟩ := ⟨rfl, fun j hj => by
  have h4 : j < 4 := hj
  match j, h4 with
  | 0, _ | 1, _ | 2, _ | 3, _ => rfl
  | n + 4, h => omega⟩
theorem fac_unmix : facS unmixF ⟨#[14, 11, 13, 9]⟩ := ⟨rfl, fun j hj => by
  have h4 : j < 4 := hj
  match j, h4 with
  | 0, _ | 1, _ | 2, _ | 3, _ => rfl
  | n + 4, h => omega⟩
theorem mixF_lt : ∀ j, j < 4 → mixF j < 256 := by decide
theorem unmixF_lt : ∀ j, j < 4 → unmixF j < 256 := by decide
end RefRnd
end Go.Proofs.YtgfdomdbjiflmaaDoor
