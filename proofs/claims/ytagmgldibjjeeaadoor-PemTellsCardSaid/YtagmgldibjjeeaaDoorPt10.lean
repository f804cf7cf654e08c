import Derived.Test.YtagmgldibjjeeaaDoorPt4
import Derived.Lib.IndexLaws
import Derived.BigQuiet
set_option maxRecDepth 100000
namespace Go.Proofs.YtagmgldibjjeeaaDoor
open Go.RowKit
namespace Cut
theorem indexbyte_ret (s:ByteArray) (c:Int):Ret 33 #[.string s,.int .u8 c] (.int .i64 (Lib.indexByte s.data.toList c.toNat.toUInt8)):=by
 intro w
 go_enter Tryd.func33,Tryd.ntmps33
 go_wp2_with fail
 rw [run_callFunc_extern Tryd.func49 (by kernel_rfl) (by kernel_rfl) (by kernel_rfl) (e:=Extern.BytealgIndexByte.indexByte) (by kernel_rfl),Lib.run_indexByteString]
 simp only [Result.andThen]
 rw [Oper.upon_value]
 go_wp2_with fail
 go_ret
 exact ⟨rfl,rfl⟩
end Cut
end Go.Proofs.YtagmgldibjjeeaaDoor
