/- The law BlockOne: whatever is imported is right, and exported it is just that text; else there is no record; no conditions. -/
import Derived.Test.YtddlaafpianjbaaGreatDoorRows
import Derived.WalkKit
import Derived.ProofKit
import Derived.OpenShut
import Derived.Lib.Hide
import Derived.Test.YtddlaafpianjbaaGreatDoorBo48
import Derived.Test.YtddlaafpianjbaaGreatDoorCards
import Derived.Test.YtddlaafpianjbaaGreatDoorTie
import Derived.LaidMore
import Derived.SevenTiedAt
import Derived.Stop.Joined
import Derived.Lay
set_option maxRecDepth 100000
namespace Go.Proofs.YtddlaafpianjbaaGreatDoor.blockOne
open Go.ChangeShapes Go.WideShapes Go.ChangeAt Go.RowKit
open Att Block
set_option maxHeartbeats 1000000 in
theorem big_1 (w:World) (kek b:ByteArray) (l1:100 < kek.size) (hT:K3 w):Calls Tryz.prog 5 #[.string kek,.string b] w fun x w' => x = .returned (.bool true) /\ Since w w':=by
 have t1:decide ((100:Int) < (kek.size:Int)) = true:=decide_eq_true (by omega)
 clear l1
 have HS:=lH (Since.refl w)
 have HT:=lH hT
 have c9:=awake_k
 clear hT
 go_enter Tryz.func5,Tryz.ntmps5
 go_wp2_with fail
 refine c9.calls0 HT.out ?_
 intro w1 h1
 replace HS:=lH (HS.out.step h1)
 clear h1
 go_wp2_with fail
 go_ret
 exact ⟨rfl,HS.out⟩
set_option maxHeartbeats 1000000 in
theorem big_2 (w:World) (kek b:ByteArray) (l1:kek.size <= 100) (l3:1500 < b.size) (hT:K3 w):Calls Tryz.prog 5 #[.string kek,.string b] w fun x w' => x = .returned (.bool true) /\ Since w w':=by
 have t1:decide ((100:Int) < (kek.size:Int)) = false:=decide_eq_false (by omega)
 have t3:decide ((1500:Int) < (b.size:Int)) = true:=decide_eq_true (by omega)
 clear l1 l3
 have HS:=lH (Since.refl w)
 have HT:=lH hT
 have c9:=awake_k
 clear hT
 go_enter Tryz.func5,Tryz.ntmps5
 go_wp2_with fail
 refine c9.calls0 HT.out ?_
 intro w1 h1
 replace HS:=lH (HS.out.step h1)
 clear h1
 go_wp2_with fail
 go_ret
 exact ⟨rfl,HS.out⟩
set_option maxHeartbeats 2000000 in
theorem core_0 (w:World) (kek b:ByteArray) (l1:kek.size <= 100) (l3:b.size <= 1500) (E:Int) (hE:(E != 0) = true) (_hE2:(E == 0) = false) (c1:KMk K3 10 #[.string kek,.string b] (noR E)) (c2:NoT) (hT:K3 w) :
   Calls Tryz.prog 5 #[.string kek,.string b] w fun x w' => x = .returned (.bool true) /\ Since w w':=by
 have t1:decide ((100:Int) < (kek.size:Int)) = false:=decide_eq_false (by omega)
 have t3:decide ((1500:Int) < (b.size:Int)) = false:=decide_eq_false (by omega)
 clear l1 l3
 unfold noR Z7 at c1
 unfold NoT Z7 at c2
 have HS:=lH (Since.refl w)
 have HT:=lH hT
 have c9:=awake_k
 clear hT
 go_enter Tryz.func5,Tryz.ntmps5
 go_wp2_with fail
 refine c1.calls0 HT.out ?_
 intro w1 h1
 replace HS:=lH (HS.out.step h1)
 replace HT:=lH (Kp.keep HT.out h1)
 have hp:=lH (bx_new (K:=0) (k:=⟨#[]⟩) (u:=⟨#[]⟩) (m:=⟨#[]⟩) (v:=⟨#[]⟩) (e:=⟨#[]⟩) HT.out (AttsS.nil w1))
 replace HS:=lH (HS.out.step hp.out.hb.since)
 clear h1
 obtain ⟨_,m0,m1,m2,m3,m4,m5,m6⟩:=bx7 hp
 go_wp2_with fail
 clear m0 m1 m2 m3 m4 m5 m6
 refine (c2 _).mono ?_
 rintro x w2 ⟨rfl,h2⟩
 replace hp:=bxstep h2 hp
 replace HS:=lH (HS.out.step h2)
 clear h2
 go_wp2_with fail
 refine (c9.calls0 hp.out.hb.tabs) ?_
 intro w3 h3
 replace HS:=lH (HS.out.step (Up.up h3))
 replace hp:=bxstep (Up.up h3) hp
 clear h3
 go_wp2_with fail
 go_ret
 exact ⟨rfl,HS.out⟩
set_option maxHeartbeats 4000000 in
theorem core_1 (w:World) (kek b:ByteArray) (l1:kek.size <= 100) (l3:b.size <= 1500) (K:Int) (k u m v e:ByteArray) (L:List A2) (P:ByteArray) (c1:ImO 10 kek b K k u m v e L P) (c2:RdE 8 kek P K k u m v e L (.tuple #[.string b,.int .i64 0])) (c3:Rec.RdR 15 L (fun x => #[rv K k u m v e x]) (.int .i64 0)) (hT:K3 w) :
   Calls Tryz.prog 5 #[.string kek,.string b] w fun x w' => x = .returned (.bool true) /\ Since w w':=by
 have t1:decide ((100:Int) < (kek.size:Int)) = false:=decide_eq_false (by omega)
 have t3:decide ((1500:Int) < (b.size:Int)) = false:=decide_eq_false (by omega)
 have b5:(b.toList == b.toList) = true:=beq_self_eq_true _
 clear l1 l3
 have HS:=lH (Since.refl w)
 have HT:=lH hT
 have c9:=awake_k
 clear hT
 go_enter Tryz.func5,Tryz.ntmps5
 go_wp2_with fail
 refine (c1 _ HT.out).mono ?_
 rintro x w1 ⟨a,rfl,ha,h1⟩
 replace HS:=lH (HS.out.step h1)
 replace HT:=lH (Kp.keep HT.out h1)
 obtain ⟨A,d,hav,_⟩:=ha.slice
 subst hav
 unfold R7
 have hp:=lH (bx_new (K:=K) (k:=k) (u:=u) (m:=m) (v:=v) (e:=e) HT.out ha)
 replace HS:=lH (HS.out.step hp.out.hb.since)
 clear h1 ha
 obtain ⟨_,m0,m1,m2,m3,m4,m5,m6⟩:=bx7 hp
 go_wp2_with fail
 clear m0 m1 m2 m3 m4 m5 m6
 refine (c2.calls0 hp.out.hb.tabs hp.out.atts) ?_
 intro w2 h2
 replace HS:=lH (HS.out.step (Up.up h2))
 replace hp:=bxstep (Up.up h2) hp
 clear h2
 obtain ⟨_,m0,m1,m2,m3,m4,m5,m6⟩:=bx7 hp
 go_wp2_with fail
 clear m0 m1 m2 m3 m4 m5 m6
 refine (c3.calls0 hp.out.hb.tabs.t2 hp.out.atts) ?_
 intro w4 h4
 replace HS:=lH (HS.out.step (Up.up h4))
 replace hp:=bxstep (Up.up h4) hp
 clear h4
 go_wp2_with fail
 refine (c9.calls0 hp.out.hb.tabs) ?_
 intro w3 h3
 replace HS:=lH (HS.out.step (Up.up h3))
 replace hp:=bxstep (Up.up h3) hp
 clear h3
 go_wp2_with fail
 go_ret
 exact ⟨rfl,HS.out⟩
theorem walk (kek b:ByteArray) (_f0:kek.size <= maxLen) (_f1:b.size <= maxLen) (w:World) (hT:K3 w) :
   Calls Tryz.prog 5 #[.string kek,.string b] w fun x w' => x = .returned (.bool true) /\ Below w.heap.size w w':=by
 by_cases l1:100 < kek.size
 · exact big_1 w kek b l1 hT
 replace l1:kek.size <= 100:=by omega
 by_cases l3:1500 < b.size
 · exact big_2 w kek b l1 l3 hT
 replace l3:b.size <= 1500:=by omega
 rcases import_b kek b l3 l1 with ⟨E,hE,d1,-⟩ | ⟨K,k,P,d1,-,g0,g1,g2,g3,g4,g5⟩
 · exact core_0 w kek b l1 l3 E hE (by rw [bne_iff_ne] at hE; exact beq_eq_false_iff_ne.2 hE) d1 nothing_t hT
 · obtain ⟨o1,o2,o3⟩:=one_of g0 g1 g2 g3 g4 g5
   obtain ⟨-,-,-,t4⟩:=tt_fit K k P g3 g4
   have hP:k.size <= 100 /\ P.size <= 200:=by
     have h:=Load.pld_size k P
     omega
   have hz:(b.extract 5 7).size <= 100 /\ (b.extract 8 9).size <= 100 /\ (b.extract 9 11).size <= 100 /\ (b.extract 11 12).size <= 100:=by
     simp only [ByteArray.size_extract]; omega
   have c2:=export_b kek P K k (b.extract 5 7) (b.extract 8 9) (b.extract 9 11) (b.extract 11 12) (Templ.fL (Frame.cutO b)) hP.1 hP.2 l1 hz
   rw [o1,o2] at c2
   have c3:=Rec.rcheck_rec K k (b.extract 5 7) (b.extract 8 9) (b.extract 9 11) (b.extract 11 12) (Templ.fL (Frame.cutO b)) (by omega) _ rfl
   rw [o3] at c3
   exact core_1 w kek b l1 l3 K k _ _ _ _ _ P d1 c2 c3 hT
theorem own:ownKnob Tryz.prog.godebug = none:=by kernel_rfl
def laidL : List (String × DataW Unit) := [("unicode/utf8.acceptRanges", Rows.laid_unicode_utf8_acceptRanges), ("claviger/curve.lines", Rows.laid_claviger_curve_lines), ("claviger/kind.lines", Rows.laid_claviger_kind_lines), ("claviger/table.lines", Rows.laid_claviger_table_lines), ("unicode/utf8.first", Rows.laid_unicode_utf8_first)]
theorem lifted (os:Os) (started:os.Started) (H:Type) (enc:TypeId × Value -> H) :
   ReturnsInHanded {} Tryz.checked os 5 .any (fun w args => (Rows.blockOneSpec.pre enc Tryz.prog Tryz.f5 [] false w args /\ laidMetH Tryz.prog laidL w) /\ sizedMet enc Tryz.prog Tryz.f5 (OpenSpec.ofChange Rows.blockOneSpec) false w args)
     (Rows.blockOneSpec.post enc Tryz.prog Tryz.f5 false true false false):=by
 refine returnsInHanded_of_change_and (C:=Tryz.checked) (X:=fun w _ => laidMetH Tryz.prog laidL w) (fun _ _ _ hh h => h.of_heap hh) own started (by kernel_rfl) Tryz.func5
   (ChangeSpec.witness_shaped (enc:=enc) (C:=Tryz.checked) (os:=os) (X:=fun w _ => laidMetH Tryz.prog laidL w) false (World.laidAll Tryz.prog os laidL) #[.string ⟨#[]⟩,.string ⟨#[]⟩] 8 (World.laidAll_os _ _ _) (World.shaped_of_ZipB (by kernel_rfl) (by kernel_rfl)) (by kernel_rfl) (by kernel_rfl) (by kernel_rfl) (by rw [MakeChecks.laidMetH_plain _ _ _ (by kernel_rfl)]; exact laidMet_laidAll _ (by kernel_rfl) (by kernel_rfl))) ?_
 intro W base args ds gs before hval0 hW _ _ hL _
 have hval:∀ (j:Nat) t v,Tryz.f5.params[j]? = some t -> args[j]? = some v -> Value.okWide Tryz.prog W .any base t v:=hval0
 have hW':=hW
 obtain ⟨p,q,hA0,hV,rfl,hfz,hnd⟩:=hW
 have hA:DataW.TrodAll enc Tryz.prog W 0 (fun _ => true) true Tryz.f5.params.toList args.toList ds p:=hA0
 rw [Tryz.params5] at hA hval
 obtain ⟨v0,vs0,d0,ds0,p0,q0,hargs,rfl,rfl,h0,r0⟩:=trodAll_cons hA
 obtain ⟨v1,vs1,d1,ds1,p1,q1,rfl,rfl,rfl,h1,r1⟩:=trodAll_cons r0
 obtain ⟨rfl,rfl,rfl⟩:=trodAll_nil r1
 obtain rfl:args = #[v0,v1]:=by cases args; simp_all
 obtain ⟨rfl,rfl⟩:=trodVars_none hV
 obtain ⟨a0,rfl,rfl,rfl,w0⟩:=Go.ChangeMaps.open_string Tryz.underlying9 (hval 0 9 v0 rfl rfl) h0
 obtain ⟨a1,rfl,rfl,rfl,w1⟩:=Go.ChangeMaps.open_string Tryz.underlying9 (hval 1 9 v1 rfl rfl) h1
 clear hA0 hval0
 simp only [List.append_nil] at hW'
 refine (walk a0 a1 w0 w1 W (Block.tabs5_of hL)).mono fun e W' ⟨he,hg⟩ => ?_
 subst he
 exact ⟨_,rfl,_,_,_,_,_,[],hW',(trodAll_cons_mk (shut_bool Tryz.underlying4 _) trodAll_mk0),(trodAll_cons_mk (Go.ChangeMaps.shut_string Tryz.underlying9 w0) (trodAll_cons_mk (Go.ChangeMaps.shut_string Tryz.underlying9 w1) trodAll_mk0)),rfl,hg.frame _,fun h => by cases h⟩
theorem over:Rows.blockOneRow.holds Tryz.pinned (OpenSpec.ofChange Rows.blockOneSpec) :=
 OpenClaim.holds_of_wide 5 Tryz.f5 rfl rfl rfl rfl rfl rfl rfl ⟨rfl,rfl,rfl,rfl,rfl⟩ rfl rfl rfl rfl rfl (by kernel_rfl) Tryz.func5 (by kernel_rfl)
   (of_decide_eq_true (by kernel_rfl)) (by unfold Func.isWrapper; first | (rw [if_pos (by decide +kernel)]; kernel_rfl) | (rw [if_neg (by decide +kernel)]; exact ⟨rfl,rfl⟩))
   (fun os started H enc _ => lifted os started H enc)
theorem proved:Rows.BlockOneCardSaid :=
 Claim7.holds_tied_plain_at .later [] [.data,.data,.data,.data,.pinned] true Rows.blockOneCard.stood.harness false
   over (fun _ h => by cases h) (by kernel_rfl) (fun _ h => by cases h) blockOne_row_tie rfl ⟨rfl,rfl⟩ (by kernel_rfl) rfl
   (fun f fn hf hfn => by
     obtain rfl : f = 5 := Option.some.inj ((show Tryz.prog.funcNamed "claviger/clavigerlaw39.BlockOne" = some 5 by kernel_rfl).symm.trans hf) |>.symm
     obtain rfl:fn = Tryz.f5:=(Option.some.inj (Tryz.func5.symm.trans hfn)).symm
     exact ⟨by kernel_rfl,fun j t ht => by
       rw [Tryz.params5] at ht
       have hm:t ∈ [9,9]:=by simpa using Array.mem_of_getElem? ht
       have hall:([9,9].all fun u => !Tryz.prog.wantsStandIn u) = true:=by kernel_rfl
       exact (show Tryz.prog.wantsStandIn t = false by simpa using List.all_eq_true.1 hall t hm)⟩)
   (by kernel_rfl)
end Go.Proofs.YtddlaafpianjbaaGreatDoor.blockOne
