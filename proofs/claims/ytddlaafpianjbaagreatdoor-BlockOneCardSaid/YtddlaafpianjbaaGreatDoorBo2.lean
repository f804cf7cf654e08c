import Derived.Test.YtddlaafpianjbaaGreatDoorRows
import Derived.WalkKit
set_option maxRecDepth 100000
namespace Go.Proofs.YtddlaafpianjbaaGreatDoor
def bs (l:List UInt8):ByteArray:=⟨l.toArray⟩
theorem bs_list (s:ByteArray):bs s.data.toList = s:=by cases s; rfl
theorem list_bs (l:List UInt8):(bs l).data.toList = l:=rfl
theorem size_bs (l:List UInt8):(bs l).size = l.length:=rfl
theorem ba_ext {s t:ByteArray} (h:s.data.toList = t.data.toList):s = t:=by
 rw [<- bs_list s,<- bs_list t,h]
theorem ext_list (s:ByteArray) (a b:Nat):(s.extract a b).data.toList = (s.data.toList.drop a).take (b - a):=by
 rw [ByteArray.data_extract,Array.toList_extract,List.extract_eq_take_drop]
theorem app_list (s t:ByteArray):(s ++ t).data.toList = s.data.toList ++ t.data.toList:=by
 rw [ByteArray.data_append,Array.toList_append]
theorem nums_list (xs:List Int):(strOfNums xs).data.toList = xs.map fun n => UInt8.ofNat n.toNat:=rfl
theorem bs_nums (xs:List Int):strOfNums xs = bs (xs.map fun n => UInt8.ofNat n.toNat):=rfl
theorem nums_bytes (l:List UInt8):strOfNums (l.map fun c => (c.toNat:Int)) = bs l:=by
 rw [bs_nums,List.map_map]
 have h:((fun n:Int => UInt8.ofNat n.toNat) ∘ fun c:UInt8 => (c.toNat:Int)) = id:=by funext c; simp
 rw [h,List.map_id]
theorem toList_d (R:ByteArray):R.toList = R.data.toList:=by first | exact ByteArray.toList_eq R | exact Go.ByteArray.toList_eq R
theorem str_ne_f {p q:ByteArray} (h:p ≠ q):(p.toList == q.toList) = false:=by
 rw [beq_eq_false_iff_ne,toList_d,toList_d]
 exact fun h2 => h (ba_ext h2)
theorem str_ne_t {p q:ByteArray} (h:p ≠ q):(!p.toList == q.toList) = true:=by rw [str_ne_f h]; rfl
theorem str_eq_t {p q:ByteArray} (h:p = q):(p.toList == q.toList) = true:=by rw [h]; exact beq_self_eq_true _
theorem some_bytes_f (R:ByteArray) (h:0 < R.size):R.toList.isEmpty = false:=by
 rw [toList_d]
 cases hl:R.data.toList with
 | nil =>
   have h9:R.size = R.data.toList.length:=rfl
   rw [hl,List.length_nil] at h9
   omega
 | cons x l => rfl
theorem str_eq_f {p q:ByteArray} (h:p = q):(!p.toList == q.toList) = false:=by rw [str_eq_t h]; rfl
end Go.Proofs.YtddlaafpianjbaaGreatDoor
