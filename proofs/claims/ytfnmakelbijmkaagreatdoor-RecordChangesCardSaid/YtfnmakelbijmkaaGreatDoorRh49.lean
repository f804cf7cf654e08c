import Derived.Test.YtfnmakelbijmkaaGreatDoorRh47
import Derived.Test.YtfnmakelbijmkaaGreatDoorRh46
import Derived.Test.YtfnmakelbijmkaaGreatDoorRh3
set_option maxRecDepth 100000
namespace Go.Proofs.YtfnmakelbijmkaaGreatDoor
open Go.RowKit
namespace Atf
open Att Rw Atm Tlv Setof
theorem s_one (s:ByteArray):∀ u ∈ (#[.string s]:Array Value).toList,u.oneCell' = true:=by
 intro u hu
 simp only [List.mem_cons,List.not_mem_nil,or_false] at hu
 subst hu
 rfl
end Atf
end Go.Proofs.YtfnmakelbijmkaaGreatDoor
