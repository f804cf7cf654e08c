import Derived.Test.YtddlaafpianjbaaGreatDoorBo4
import Derived.Laws.CopyOwn
set_option maxRecDepth 100000
namespace Go.Proofs.YtddlaafpianjbaaGreatDoor
open Go.RowKit
namespace Rnd
def ent (l:List UInt8) (i:Nat):Nat:=(l.getD i 0).toNat
theorem ent_s (s:ByteArray) (k:Nat) (h:k < s.size):ent s.data.toList k = s[k].toNat:=by
 unfold ent
 congr 1
 simp [List.getD,List.getElem?_eq_getElem (show k < s.data.toList.length from h)]; rfl
theorem ent_lt (l:List UInt8) (i:Nat):ent l i < 256:=UInt8.toNat_lt _
theorem zrow (w:World) (t:TypeId) (c:Array Value) (hc:c.size = 16) (h:∀ i,i < 16 -> c[i]? = some (.int .u8 0)):(w.alloc (.cells c t)).rowIs w.heap.size t 16 (fun _ => .int .u8 0):=by
 have:=World.rowIs_alloc w c t (fun _ => .int .u8 0) (fun i hi => h i (by omega))
 rwa [hc] at this
theorem z16 (i:Nat) (h:i < 16):(#[.int .u8 0,.int .u8 0,.int .u8 0,.int .u8 0,.int .u8 0,.int .u8 0,.int .u8 0,.int .u8 0,.int .u8 0,.int .u8 0,.int .u8 0,.int .u8 0,.int .u8 0,.int .u8 0,.int .u8 0,.int .u8 0]:Array Value)[i]? = some (.int .u8 0):=by
 match i,h with
 | 0,_ | 1,_ | 2,_ | 3,_ | 4,_ | 5,_ | 6,_ | 7,_ | 8,_ | 9,_ | 10,_ | 11,_ | 12,_ | 13,_ | 14,_ | 15,_ => rfl
 | n + 16,h => omega
theorem World.size_alloc' (w:World) (o:Obj):(w.alloc o).heap.size = w.heap.size + 1:=by simp
def mk16 (g:Nat -> Nat):List UInt8:=(List.range 16).map fun i => UInt8.ofNat (g i)
theorem mk16_len (g:Nat -> Nat):(mk16 g).length = 16:=by simp [mk16]
theorem mk16_ent (g:Nat -> Nat) (i:Nat) (hi:i < 16) (hg:g i < 256):ent (mk16 g) i = g i:=by
 simp [mk16,ent,List.getD,hi]
 omega
def pickL (sel:Nat -> Nat -> Nat) (l:List UInt8):List UInt8:=mk16 fun i => ent l (4 * sel (i % 4) (i / 4) + i % 4)
end Rnd
end Go.Proofs.YtddlaafpianjbaaGreatDoor
