import Derived.Lib.SlBuf
import Derived.Test.YtcdjfmlanicjlaaGreatDoorSl8
set_option maxRecDepth 100000
namespace Go.Proofs.YtcdjfmlanicjlaaGreatDoor
open Go.RowKit
theorem info5:(Tryz.prog.info? 5).map (fun i => (i.zero,i.size,i.bytes)) = some (some (Value.int IntKind.u8 0),1,1):=by kernel_rfl
namespace Oct
def putL (n:Int) (width:Nat):List Int:=(List.range width).map fun i => n / 2 ^ (8 * (7 - (8 - width + i))) % 256
def numN (l:List UInt8):Nat:=l.foldl (fun n c => n * 256 + c.toNat) 0
end Oct
namespace Oct
end Oct
namespace Oct
end Oct
namespace Oct
def pc (l:List UInt8) (n i:Nat):ByteArray:=bs ((l.drop (n * i)).take n)
def pcs (l:List UInt8) (n m:Nat):List ByteArray:=(List.range m).map (pc l n)
def trimL (l:List UInt8):List UInt8:=l.dropWhile (· == 0)
end Oct
namespace RefOct
end RefOct
namespace RefOct
def low (n:Int):Nat -> List UInt8
 | 0 => []
 | k+1 => UInt8.ofNat (n / 2 ^ (8 * k) % 256).toNat :: low n k
end RefOct
namespace Utf
end Utf
end Go.Proofs.YtcdjfmlanicjlaaGreatDoor
