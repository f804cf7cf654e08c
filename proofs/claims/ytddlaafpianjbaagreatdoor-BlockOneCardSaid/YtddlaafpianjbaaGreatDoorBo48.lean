import Derived.SevenTiedAt
import Derived.Test.YtddlaafpianjbaaGreatDoorBo47
set_option maxRecDepth 100000
namespace Go.Proofs.YtddlaafpianjbaaGreatDoor
open Go.ChangeShapes Go.WideShapes Go.ChangeAt Go.RowKit
namespace Block
open Att
theorem tabs5_of {W : World} (h : laidMetH Tryz.prog [("unicode/utf8.acceptRanges", Rows.laid_unicode_utf8_acceptRanges), ("claviger/curve.lines", Rows.laid_claviger_curve_lines), ("claviger/kind.lines", Rows.laid_claviger_kind_lines), ("claviger/table.lines", Rows.laid_claviger_table_lines), ("unicode/utf8.first", Rows.laid_unicode_utf8_first)] W) : K3 W := by
 rw [MakeChecks.laidMetH_plain _ _ _ (by kernel_rfl)] at h
 obtain ⟨ps,⟨_,_,_,_,_,_,_,_,_,_,⟨g0,t0,cs0,f0,p0,q0,hg0,ht0,hv0,hd0,⟨g1,t1,cs1,f1,p1,q1,hg1,ht1,hv1,hd1,⟨g2,t2,cs2,f2,p2,q2,hg2,ht2,hv2,hd2,_,_⟩,_⟩,_⟩,_⟩,_,_⟩:=h
 exact ⟨Table.tabs_at hg2 ht2 hv2 hd2,Kind.tabs_at hg1 ht1 hv1 hd1,Curve.tabs_at hg0 ht0 hv0 hd0⟩
def NoT:Prop:=∀ w,Calls Tryz.prog 19 #[.agg Z7] w fun z w' => z = .returned (.bool true) /\ Since w w'
set_option maxHeartbeats 1000000 in
theorem nothing_t:NoT:=by
 intro w
 have c1:=alike_t 0 ⟨#[]⟩ ⟨#[]⟩ ⟨#[]⟩ ⟨#[]⟩ ⟨#[]⟩ []
 unfold Z7
 have hr:=lH (hb_new w KT trivial #[.int .i64 0,.string ⟨#[]⟩,.slice none 0 0,.string ⟨#[]⟩,.string ⟨#[]⟩,.string ⟨#[]⟩,.string ⟨#[]⟩] 26)
 have HS:=lH hr.out.since
 obtain ⟨_,m0,m1,m2,m3,m4,m5,m6⟩:=hb7 hr
 go_enter Tryz.func19,Tryz.ntmps19
 go_wp2_with fail
 refine c1.calls0 (AttsS.nil _) (AttsS.nil _) ?_
 intro w1 h1
 replace HS:=lH (HS.out.step h1)
 clear h1 m0 m1 m2 m3 m4 m5 m6 hr
 go_wp2_with fail
 go_ret
 exact ⟨rfl,HS.out⟩
end Block
end Go.Proofs.YtddlaafpianjbaaGreatDoor
