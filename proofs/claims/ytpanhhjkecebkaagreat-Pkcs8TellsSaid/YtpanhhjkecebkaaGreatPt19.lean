import Derived.Test.YtpanhhjkecebkaaGreatPt3
import Derived.Laws.CopyOwn
import Derived.Lib.SlBuf
set_option maxRecDepth 100000
namespace Go.Proofs.YtpanhhjkecebkaaGreat
open Go.RowKit
theorem run_copy_k {P:Program} (w:World) (dT sT ty elem:TypeId) (k g o dLen dCap:Nat) (a:Addr) (sLen sCap:Nat) (cur:Array Value) (t:TypeId) (cs:List Value) (n:Nat)
   (hu:P.underlying dT = some (.slice elem)) (hs:(P.info? elem).map (·.size) = some k)
   (hg:w.heap[g]? = some (.cells cur t (0,0))) (hn:n = Nat.min sLen dLen) (hl:cs.length = n * k)
   (hsrc:∀ j v,cs[j]? = some v -> w.cell? (a.add j) = some v) (hfit:o + cs.length <= cur.size) (h1:∀ v ∈ cs,v.oneCell' = true) :
   (Builtin.copy_ #[dT,sT] ty #[.slice (some ⟨g,o,none⟩) dLen dCap,.slice (some a) sLen sCap]).run P w =
     .ok (goInt n) (w.setRow g (cur.toList.take o ++ cs ++ cur.toList.drop (o + cs.length)).toArray):=by
 have hld:=run_loadCells_list (P:=P) w a cs hsrc;have hst:=run_storeCells_at P g o t cs 0 cur w hg (by simpa using hfit) h1;rw [hl] at hld;cases hq:P.info? elem with
 | none => simp [hq] at hs
 | some i =>
   have hi:i.size = k:=by simpa [hq] using hs
   simp [Builtin.copy_,run_underlying hu,Builtin.lenOf,Builtin.firstCells,sizeOf,typeInfo,hq,hi,<- hn,hld,hst]
end Go.Proofs.YtpanhhjkecebkaaGreat
