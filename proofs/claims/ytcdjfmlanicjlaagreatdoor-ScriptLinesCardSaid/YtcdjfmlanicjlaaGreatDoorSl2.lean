import Derived.Test.YtcdjfmlanicjlaaGreatDoorRows
import Derived.WalkKit
set_option maxRecDepth 100000
namespace Go.Proofs.YtcdjfmlanicjlaaGreatDoor
def bs (l:List UInt8):ByteArray:=⟨l.toArray⟩
theorem bs_list (s:ByteArray):bs s.data.toList = s:=by cases s; rfl
theorem list_bs (l:List UInt8):(bs l).data.toList = l:=rfl
theorem size_bs (l:List UInt8):(bs l).size = l.length:=rfl
theorem ba_ext {s t:ByteArray} (h:s.data.toList = t.data.toList):s = t:=by
 rw [<- bs_list s,<- bs_list t,h]
theorem ext_list (s:ByteArray) (a b:Nat):(s.extract a b).data.toList = (s.data.toList.drop a).take (b - a):=by
 rw [ByteArray.data_extract,Array.toList_extract,List.extract_eq_take_drop]
theorem app_list (s t:ByteArray):(s ++ t).data.toList = s.data.toList ++ t.data.toList:=by
 rw [ByteArray.data_append,Array.toList_append]
theorem nums_list (xs:List Int):(strOfNums xs).data.toList = xs.map fun n => UInt8.ofNat n.toNat:=rfl
theorem bs_nums (xs:List Int):strOfNums xs = bs (xs.map fun n => UInt8.ofNat n.toNat):=rfl
theorem nums_bytes (l:List UInt8):strOfNums (l.map fun c => (c.toNat:Int)) = bs l:=by
 rw [bs_nums,List.map_map]
 have h:((fun n:Int => UInt8.ofNat n.toNat) ∘ fun c:UInt8 => (c.toNat:Int)) = id:=by funext c; simp
 rw [h,List.map_id]
theorem toList_d (R:ByteArray):R.toList = R.data.toList:=by first | exact ByteArray.toList_eq R | exact Go.ByteArray.toList_eq R
theorem str_ne_f {p q:ByteArray} (h:p ≠ q):(p.toList == q.toList) = false:=by
 rw [beq_eq_false_iff_ne,toList_d,toList_d]
 exact fun h2 => h (ba_ext h2)
theorem str_ne_t {p q:ByteArray} (h:p ≠ q):(!p.toList == q.toList) = true:=by rw [str_ne_f h]; rfl
theorem str_eq_t {p q:ByteArray} (h:p = q):(p.toList == q.toList) = true:=by rw [h]; exact beq_self_eq_true _
theorem some_bytes_f (R:ByteArray) (h:0 < R.size):R.toList.isEmpty = false:=by
 rw [toList_d]
 cases hl:R.data.toList with
 | nil =>
   have h9:R.size = R.data.toList.length:=rfl
   rw [hl,List.length_nil] at h9
   omega
 | cons x l => rfl
theorem str_eq_f {p q:ByteArray} (h:p = q):(!p.toList == q.toList) = false:=by rw [str_eq_t h]; rfl
end Go.Proofs.YtcdjfmlanicjlaaGreatDoor
namespace Go.Proofs.YtcdjfmlanicjlaaGreatDoor
namespace Oid
def Ok:List Int -> Prop
 | a :: b :: r => r.length <= 18 /\ 0 <= a /\ a <= 2 /\ 0 <= b /\ (b <= 39 ∨ a = 2 /\ b <= 2147483567) /\ ∀ x ∈ r,0 <= x /\ x <= 2147483647
 | _ => False
instance (l:List Int):Decidable (Ok l):=by unfold Ok; split <;> infer_instance
def hi (n:Nat):List UInt8:=if _h:n = 0 then [] else hi (n / 128) ++ [UInt8.ofNat (n % 128 + 128)]
termination_by n
decreasing_by omega
def num (n:Nat):List UInt8:=hi (n / 128) ++ [UInt8.ofNat (n % 128)]
def encN (l:List Nat):List UInt8:=l.flatMap num
def enc:List Int -> List UInt8
 | a :: b :: r => num (40 * a + b).toNat ++ encN (r.map Int.toNat)
 | _ => []
def push (l:List Int) (n:Nat):List Int:=if l = [] then [((min (n / 40) 2:Nat):Int),((n - 40 * min (n / 40) 2:Nat):Int)] else l ++ [(n:Int)]
def pd:List UInt8 -> Nat -> Bool -> List Int -> Option (List Int)
 | [],_,b,l => if b then none else some l
 | c :: cs,n,b,l =>
   if (b = false /\ c.toNat = 128) ∨ 16777215 < n then none
   else if 128 <= c.toNat then pd cs (n * 128 + c.toNat % 128) true l
   else if l.length = 20 then none else pd cs 0 false (push l (n * 128 + c.toNat % 128))
def rd:List UInt8 -> Nat -> List Int -> Option (List Int)
 | [],_,l => some l
 | c :: cs,n,l =>
   if 21 <= l.length then some l
   else if 4294967296 < 128 * n + c.toNat % 128 then none
   else if 127 < c.toNat then rd cs (128 * n + c.toNat % 128) l
   else rd cs 0 (push l (128 * n + c.toNat % 128))
def pushes (l:List Int):List Nat -> List Int
 | [] => l
 | n :: ns => pushes (push l n) ns
def decL (c:List UInt8):List Int:=((pd c 0 false []).filter fun l => decide (Ok l)).getD []
def decB (c:List UInt8):Bool:=((pd c 0 false []).filter fun l => decide (Ok l)).isSome
end Oid
end Go.Proofs.YtcdjfmlanicjlaaGreatDoor
