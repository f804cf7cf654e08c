import Derived.Test.YtcdjfmlanicjlaaGreatDoorSl44
import Derived.Lib.AppendZeros
set_option maxRecDepth 100000
namespace Go.Proofs.YtcdjfmlanicjlaaGreatDoor
open Go.RowKit
namespace Atf
open Att Rw Tlv
theorem elemAt:ElemIs 56 91 (.agg #[.int .i64 0,.string ⟨#[]⟩]) 2 24:=⟨Tryz.underlying56,by kernel_rfl,rfl,by decide⟩
theorem own_slice {w:World} {base:Nat} {e:TypeId} {k n:Nat} {v:Value} {xs:List Value} (h:w.ownsRow base e k v n xs):∃ A c,v = .slice A n c /\ n <= c:=by
 rcases h.2 with ⟨h0,h1⟩ | ⟨g',cap,cur,hv,hb,hg,hc,_⟩
 · subst h1; exact ⟨_,_,h0,Nat.le_refl _⟩
 · exact ⟨_,_,hv,hc⟩
end Atf
namespace Atf
open Att Rw Atm Tlv
theorem ac_one (p:A2):∀ u ∈ (#[.int .i64 p.1,.string p.2]:Array Value).toList,u.oneCell' = true:=by
 intro u hu
 simp only [List.mem_cons,List.not_mem_nil,or_false] at hu
 rcases hu with rfl | rfl <;> rfl
def ARow (w wr:World) (V:Value) (O:List A2):Prop:=Rw.Rows wr w.heap.size (([]:List Row) ++ ⟨91,2,V,O.length,O.flatMap ac⟩ :: [])
theorem ARow.nil (w wr:World):ARow w wr (.slice none 0 0) []:=⟨fun r hr => by rw [List.mem_singleton.1 hr]; exact World.ownsRow_nil _ _ _ _,by simp⟩
theorem ARow.since {w wr wy:World} {V:Value} {O:List A2} (h:ARow w wr V O) (hs:Since wr wy):ARow w wy V O:=Rw.Rows.since h hs
theorem ARow.val {w wr:World} {V:Value} {O:List A2} (h:ARow w wr V O):∃ A c,V = .slice A O.length c /\ O.length <= c:=own_slice h.get
theorem ARow.atts {w wr:World} {V:Value} {O:List A2} (h:ARow w wr V O):AttsS wr V O:=AttsS.own h.get
theorem ARow.app {w wr:World} {V:Value} {O:List A2} (p:A2) (h:Rw.Rows wr w.heap.size (([]:List Row) ++ ⟨91,2,V,O.length + 1,O.flatMap ac ++ (#[.int .i64 p.1,.string p.2]:Array Value).toList⟩ :: [])):ARow w wr V (O ++ [p]):=by
 unfold ARow
 rw [List.length_append,List.flatMap_append]
 exact h
end Atf
end Go.Proofs.YtcdjfmlanicjlaaGreatDoor
