/- Joined texts. -/
-- PACK: YtjpjfdmcijleoaaOctAwake
import Derived.Test.YtjpjfdmcijleoaaTr3
import Derived.Test.YtjpjfdmcijleoaaTr2
import Derived.Test.YtjpjfdmcijleoaaTr19
import Derived.BigQuiet
import Derived.BigGuardPart

/- octets.Pad, and the law's awake. -/
namespace Go.Proofs.Ytjpjfdmcijleoaa
open Go.RowKit
namespace Oct

theorem cell2 (w : World) (x y : Value) (t : TypeId) (i : Nat) (ss : List ByteArray) (h0 : x = .string (ss.getD 0 ⟨#[]⟩)) (h1 : y = .string (ss.getD 1 ⟨#[]⟩)) (hi : i < 2) :
    (w.alloc (.cells #[x, y] t)).cell? ((⟨w.heap.size, 0, none⟩ : Addr).add i) = some (.string (ss.getD i ⟨#[]⟩)) := by
  have h : ((⟨w.heap.size, 0, none⟩ : Addr).add i) = ⟨w.heap.size, i, none⟩ := by unfold Addr.add; split <;> simp_all
  rw [h, (World.rowIs_alloc w #[x, y] t (fun j => if j = 0 then x else y) (fun j hj => by
    match j, hj with
    | 0, _ | 1, _ => rfl
    | n + 2, hj => simp at hj; omega)).cell hi]
  match i, hi with
  | 0, _ => rw [if_pos rfl, h0]
  | 1, _ => rw [if_neg (by decide), h1]

theorem cat_two (s t : ByteArray) : cat [s, t] = s.data.toList ++ t.data.toList := by simp [cat]
theorem zeros_list (n : Nat) : (strOfNums (List.replicate n 0)).data.toList = List.replicate n 0 := by rw [nums_list]; simp
theorem zeros_len (s : ByteArray) (n : Nat) : s.size + n = (cat [s, strOfNums (List.replicate n 0)]).length := by
  rw [cat_two, List.length_append, zeros_list, List.length_replicate]; rfl

end Oct
end Go.Proofs.Ytjpjfdmcijleoaa
