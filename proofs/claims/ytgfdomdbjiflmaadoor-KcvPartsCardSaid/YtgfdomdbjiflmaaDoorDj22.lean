/- Joined texts. -/
-- PACK: YtgfdomdbjiflmaaDoorRefSbox2
import Derived.Test.YtgfdomdbjiflmaaDoorDj13
import Derived.Test.YtgfdomdbjiflmaaDoorDj9
import Derived.Test.YtgfdomdbjiflmaaDoorDj11

/- The reference of package sbox: Subs, Backs, Table. -/
namespace Go.Proofs.YtgfdomdbjiflmaaDoor
open Go.RowKit
namespace RefSbox
open Sbox (Rdr sub back sub_lt back_lt)

theorem nums_snoc (xs : List Int) (x : Int) : strOfNums xs ++ strOfNums [x] = strOfNums (xs ++ [x]) := by
  apply ba_ext
  rw [app_list, nums_list, nums_list, nums_list, List.map_append]
end RefSbox
end Go.Proofs.YtgfdomdbjiflmaaDoor
