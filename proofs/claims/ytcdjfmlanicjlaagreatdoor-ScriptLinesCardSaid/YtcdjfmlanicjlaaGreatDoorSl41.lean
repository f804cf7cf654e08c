import Derived.Test.YtcdjfmlanicjlaaGreatDoorSl30
import Derived.Test.YtcdjfmlanicjlaaGreatDoorSl38
import Derived.Test.YtcdjfmlanicjlaaGreatDoorSl34
import Derived.Test.YtcdjfmlanicjlaaGreatDoorSl16
set_option maxRecDepth 100000
namespace Go.Proofs.YtcdjfmlanicjlaaGreatDoor
open Go.RowKit
namespace Tlv
open Span Flt
end Tlv
namespace Tlv
open Span Flt
def lv (E:Nat -> Nat) (size:Nat):Nat -> Nat -> Nat -> Nat × Nat × Nat
 | 0,p,e => (0,p,e)
 | m + 1,p,e => if p = e then lv E size m e (if m = 0 then size else E (m - 1)) else (m + 1,p,e)
end Tlv
namespace Tlv
open Rw
end Tlv
namespace Tlv
open Span Flt Rw
end Tlv
end Go.Proofs.YtcdjfmlanicjlaaGreatDoor
namespace Go.Proofs.YtcdjfmlanicjlaaGreatDoor
namespace Tlv
def En (sp:List (Nat × Nat)) (op:List Nat) (i:Nat):Nat:=(sp.getD (op.getD i 0) (0,0)).2
def ends (sp:List (Nat × Nat)) (op:List Nat):List Nat:=op.reverse.map (fun o => (sp.getD o (0,0)).2)
structure Mid (s:ByteArray) (N:List Nd) (sp:List (Nat × Nat)) (op:List Nat) (p e:Nat):Prop where
 good:Good Strs.rightB s (top Strs.rightB s) N sp op.reverse (ends sp op) p
 len:sp.length = N.length
 occ:∀ o ∈ op,o < N.length
 spn:∀ q ∈ sp,q.1 <= q.2 /\ q.2 <= s.size
 mono:∀ i,i + 1 < op.length -> En sp op (i + 1) <= En sp op i
 e0:0 < op.length -> En sp op 0 <= s.size
 pe:p <= e
 es:e <= s.size
 en:0 < op.length -> e = En sp op (op.length - 1)
end Tlv
end Go.Proofs.YtcdjfmlanicjlaaGreatDoor
namespace Go.Proofs.YtcdjfmlanicjlaaGreatDoor
open Go.RowKit
namespace Tlv
open Span Flt Rw
def F2 (c p:Int):Array Value:=#[.int .i64 c,.int .i64 p]
end Tlv
namespace Tlv
open Span Flt Rw
theorem hr_cell {w:World} {g:Nat} {C:Array Value} {t:TypeId} {W:World} (h:HR w g C t W) (i:Nat) (v:Value) (hv:C[i]? = some v):W.cell? ⟨g,i,none⟩ = some v:=by
 unfold World.cell?
 rw [h.row]
 simpa using hv
end Tlv
namespace Tlv
open Span Flt Rw
end Tlv
end Go.Proofs.YtcdjfmlanicjlaaGreatDoor
