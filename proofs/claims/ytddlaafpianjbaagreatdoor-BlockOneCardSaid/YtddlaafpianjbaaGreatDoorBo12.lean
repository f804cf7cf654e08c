import Derived.Test.YtddlaafpianjbaaGreatDoorBo4
import Derived.Lib.IndexLaws
import Derived.BigQuiet
set_option maxRecDepth 100000
namespace Go.Proofs.YtddlaafpianjbaaGreatDoor
open Go.RowKit
namespace Cut
theorem indexbyte_ret (s:ByteArray) (c:Int):Ret 247 #[.string s,.int .u8 c] (.int .i64 (Lib.indexByte s.data.toList c.toNat.toUInt8)):=by
 intro w
 go_enter Tryz.func247,Tryz.ntmps247
 go_wp2_with fail
 rw [run_callFunc_extern Tryz.func261 (by kernel_rfl) (by kernel_rfl) (by kernel_rfl) (e:=Extern.BytealgIndexByte.indexByte) (by kernel_rfl),Lib.run_indexByteString]
 simp only [Result.andThen]
 rw [Oper.upon_value]
 go_wp2_with fail
 go_ret
 exact ⟨rfl,rfl⟩
set_option maxHeartbeats 1000000 in
theorem index_ret (s:ByteArray) (c:UInt8) (p:Int) (hp:Lib.indexByte s.data.toList c = p):Ret 228 #[.string s,.string ⟨#[c]⟩] (.int .i64 p):=by
 intro w
 have c1:=indexbyte_ret s (c.toNat:Int)
 rw [show ((c.toNat:Int).toNat.toUInt8) = c from by simp,hp] at c1
 by_cases hs:s = ⟨#[c]⟩
 · have hp0:p = 0:=by rw [<- hp,hs]; unfold Lib.indexByte; rw [if_pos (beq_self_eq_true c)]
   subst hp0
   have t1:([c] == s.toList) = true:=by
     rw [hs,toList_d]; exact beq_self_eq_true _
   clear hp c1 hs
   go_enter Tryz.func228,Tryz.ntmps228
   go_wp2_with fail
   go_ret
   exact ⟨rfl,rfl⟩
 · have t1:([c] == s.toList) = false:=by
     rw [beq_eq_false_iff_ne,toList_d]
     intro h2
     exact hs (ba_ext h2.symm)
   clear hp hs
   go_enter Tryz.func228,Tryz.ntmps228
   go_wp2_with fail
   refine (c1).calls ?_
   go_wp2_with fail
   go_ret
   exact ⟨rfl,rfl⟩
end Cut
end Go.Proofs.YtddlaafpianjbaaGreatDoor
