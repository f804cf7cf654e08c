import Derived.Shelf.Strings.OnBuilder
import Derived.Shelf.Strings.BuilderF
import Derived.Test.YtpanhhjkecebkaaProg
set_option maxRecDepth 100000
namespace Go.Proofs.Ytpanhhjkecebkaa
open Go.Shelf
def Try.lays156_ren:Go.Shelf.Ren:=⟨fun | 156 => 19 | 165 => 34 | 166 => 35 | 169 => 36 | 240 => 50 | 241 => 51 | 276 => 57 | 277 => 58 | n => n,fun | 31 => 56 | 9 => 9 | 3 => 3 | 4 => 4 | 0 => 0 | 20 => 20 | 72 => 82 | 76 => 86 | 70 => 80 | 37 => 68 | 75 => 85 | 127 => 106 | 164 => 113 | 5 => 5 | 80 => 88 | n => n,fun | n => n⟩
theorem Try.lays156:Go.Proofs.Lays.n156 Try.prog Try.lays156_ren:={
 mixed:=by kernel_rfl
 f156:=Try.func19.trans (congrArg some (by kernel_rfl))
 f165:=Try.func34.trans (congrArg some (by kernel_rfl))
 f166:=Try.func35.trans (congrArg some (by kernel_rfl))
 f169:=Try.func36.trans (congrArg some (by kernel_rfl))
 f240:=Try.func50.trans (congrArg some (by kernel_rfl))
 f241:=Try.func51.trans (congrArg some (by kernel_rfl))
 f276:=Try.func57.trans (congrArg some (by kernel_rfl))
 f277:=Try.func58.trans (congrArg some (by kernel_rfl))
 t0:=Try.underlying0
 a0:=Try.isAgg0
 z0:=Try.sizeOf0
 v0:=Try.zeroValue0
 t3:=Try.underlying3
 a3:=Try.isAgg3
 z3:=Try.sizeOf3
 v3:=Try.zeroValue3
 t4:=Try.underlying4
 a4:=Try.isAgg4
 z4:=Try.sizeOf4
 v4:=Try.zeroValue4
 t9:=Try.underlying9
 a9:=Try.isAgg9
 z9:=Try.sizeOf9
 v9:=Try.zeroValue9
 t20:=Try.underlying20
 a20:=Try.isAgg20
 z20:=Try.sizeOf20
 v20:=Try.zeroValue20
 t31:=Try.underlying56
 a31:=Try.isAgg56
 z31:=Try.sizeOf56
 v31:=Try.zeroValue56
 t37:=Try.underlying68
 a37:=Try.isAgg68
 z37:=Try.sizeOf68
 v37:=Try.zeroValue68
 t70:=Try.underlying80
 a70:=Try.isAgg80
 z70:=Try.sizeOf80
 v70:=Try.zeroValue80
 t72:=Try.underlying82
 a72:=Try.isAgg82
 z72:=Try.sizeOf82
 v72:=Try.zeroValue82
 t75:=Try.underlying85
 a75:=Try.isAgg85
 z75:=Try.sizeOf85
 v75:=Try.zeroValue85
 t76:=Try.underlying86
 a76:=Try.isAgg86
 z76:=Try.sizeOf86
 v76:=Try.zeroValue86
 t127:=Try.underlying106
 a127:=Try.isAgg106
 z127:=Try.sizeOf106
 v127:=Try.zeroValue106
 t164:=Try.underlying113
 a164:=Try.isAgg113
 z164:=Try.sizeOf113
 v164:=Try.zeroValue113 }
theorem Try.Builder_Extra_156:Builder.Extra Try.prog Try.lays156_ren:={
 sizeBuilder:=by kernel_rfl
 liesBuilder:=by kernel_rfl
 t5:=Try.underlying5
 a5:=Try.isAgg5
 z5:=Try.sizeOf5
 v5:=Try.zeroValue5
 infoByte:=by kernel_rfl
 cellsByte:=by kernel_rfl
 sizeByte:=by kernel_rfl
 neB5:=by decide }
open Go.RowKit in
theorem Try.strings_Join_none (a:Option Addr) (c:Nat) (sep:ByteArray) (w:World) :
   Calls Try.prog 19 #[.slice a 0 c,.string sep] w fun e w' => e = .returned (.string ⟨#[]⟩) /\ w' = w:=Any.strings_Join_none Try.lays156 Try.Builder_Extra_156 a c sep w
open Go.RowKit in
theorem Try.strings_Join (bk o c:Nat) (xs:List ByteArray) (sep:ByteArray) (w:World) (hcells:∀ (j:Nat) x,xs[j]? = some x -> w.cell? ⟨bk,o + j,none⟩ = some (.string x)) (hbk:bk < w.heap.size) (hN:xs.length <= 140737488355328) (hcap:xs.length <= c) (hlen:(Lib.join (xs.map (·.data.toList)) sep.data.toList).length <= 140737488355328) :
   Calls Try.prog 19 #[.slice (some ⟨bk,o,none⟩) xs.length c,.string sep] w fun e w' => e = .returned (.string ⟨(Lib.join (xs.map (·.data.toList)) sep.data.toList).toArray⟩) /\ Below w.heap.size w w':=Any.strings_Join Try.lays156 Try.Builder_Extra_156 bk o c xs sep w hcells hbk hN hcap hlen
end Go.Proofs.Ytpanhhjkecebkaa
