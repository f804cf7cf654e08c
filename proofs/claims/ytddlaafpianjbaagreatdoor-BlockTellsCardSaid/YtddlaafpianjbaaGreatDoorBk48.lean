import Derived.SevenTiedAt
import Derived.Test.YtddlaafpianjbaaGreatDoorBk47
set_option maxRecDepth 100000
set_option maxHeartbeats 8000000
namespace Go.Proofs.YtddlaafpianjbaaGreatDoor
open Go.ChangeShapes Go.WideShapes Go.ChangeAt Go.RowKit
namespace Block
open Att
theorem tabs5_of {W:World} (h:laidMetH Tryz.prog [("unicode/utf8.acceptRanges",Rows.laid_unicode_utf8_acceptRanges),("claviger/curve.lines",Rows.laid_claviger_curve_lines),("claviger/kind.lines",Rows.laid_claviger_kind_lines),("claviger/table.lines",Rows.laid_claviger_table_lines),("unicode/utf8.first",Rows.laid_unicode_utf8_first)] W):K3 W:=by
 rw [MakeChecks.laidMetH_plain _ _ _ (by kernel_rfl)] at h
 obtain ⟨ps,⟨_,_,_,_,_,_,_,_,_,_,⟨g0,t0,cs0,f0,p0,q0,hg0,ht0,hv0,hd0,⟨g1,t1,cs1,f1,p1,q1,hg1,ht1,hv1,hd1,⟨g2,t2,cs2,f2,p2,q2,hg2,ht2,hv2,hd2,_,_⟩,_⟩,_⟩,_⟩,_,_⟩:=h
 exact ⟨Table.tabs_at hg2 ht2 hv2 hd2,Kind.tabs_at hg1 ht1 hv1 hd1,Curve.tabs_at hg0 ht0 hv0 hd0⟩
def ImG (f:Nat) (kek b:ByteArray) (K:Int) (k u m v e:ByteArray) (L:List A2) (pads:ByteArray) (E:Int):Prop:=∀ w,K3 w -> Calls Tryz.prog f #[.string kek,.string b] w fun x w' => ∃ a,x = .returned (.tuple #[.agg (R7 K k u m v e a),.string pads,.int .i64 E]) /\ AttsS w' a L /\ Below w.heap.size w w'
theorem ImO.g {f:Nat} {kek b:ByteArray} {K:Int} {k u m v e:ByteArray} {L:List A2} {pads:ByteArray} (h:ImO f kek b K k u m v e L pads):ImG f kek b K k u m v e L pads 0:=h
theorem no_g {f:Nat} {kek b:ByteArray} {E:Int} (h:KMk K3 f #[.string kek,.string b] (noR E)):ImG f kek b 0 ⟨#[]⟩ ⟨#[]⟩ ⟨#[]⟩ ⟨#[]⟩ ⟨#[]⟩ [] ⟨#[]⟩ E :=
 fun w hT => (h w hT).mono fun _ _ ⟨he,hb⟩ => by subst he; exact ⟨.slice none 0 0,rfl,AttsS.nil _,hb⟩
end Block
end Go.Proofs.YtddlaafpianjbaaGreatDoor
