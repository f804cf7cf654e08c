/- The law Sec1Tells: any scalar of any curve has the bytes, any bytes are the key, that the document says, or why not; no conditions. -/
import Derived.Test.YtpanhhjkecebkaaGreatDoorRows
import Derived.WalkKit
import Derived.ProofKit
import Derived.OpenShut
import Derived.Lib.Hide
import Derived.Lay
import Derived.SevenTiedAt
import Derived.LaidOnce
import Derived.LaidMore
import Derived.Stop.Joined
import Derived.Test.YtpanhhjkecebkaaGreatDoorTie
import Derived.Test.YtpanhhjkecebkaaGreatDoorCards
import Derived.Test.YtpanhhjkecebkaaGreatDoorSt30
import Derived.Test.YtpanhhjkecebkaaGreatDoorSt45
set_option maxRecDepth 100000
namespace Go.Proofs.YtpanhhjkecebkaaGreatDoor.sec1Tells
open Go.ChangeShapes Go.WideShapes Go.ChangeAt Go.RowKit
open Curve Sec
theorem core_big1 (no:Int) (k s:ByteArray) (h:200 < k.size):KMk Tabs 3 #[.int .i64 no,.string k,.string s] (.bool true):=by
 have t1:decide ((200:Int) < (k.size:Int)) = true:=decide_eq_true (by omega)
 clear h
 intro w hT
 have HT:=lH hT
 have HS:=lH (Since.refl w)
 have c9:=awake_k
 clear hT
 go_enter Tryz.func3,Tryz.ntmps3
 go_wp2_with fail
 refine c9.calls0 HT.out ?_
 intro w1 h1
 replace HS:=lH (HS.out.step h1)
 replace HT:=lH (Kp.keep HT.out h1)
 clear h1
 go_wp2_with fail
 go_ret
 exact ⟨rfl,HS.out⟩
theorem core_big2 (no:Int) (k s:ByteArray) (h:¬ 200 < k.size) (h2:500 < s.size):KMk Tabs 3 #[.int .i64 no,.string k,.string s] (.bool true):=by
 have t1:decide ((200:Int) < (k.size:Int)) = false:=decide_eq_false (by omega)
 have t2:decide ((500:Int) < (s.size:Int)) = true:=decide_eq_true (by omega)
 clear h h2
 intro w hT
 have HT:=lH hT
 have HS:=lH (Since.refl w)
 have c9:=awake_k
 clear hT
 go_enter Tryz.func3,Tryz.ntmps3
 go_wp2_with fail
 refine c9.calls0 HT.out ?_
 intro w1 h1
 replace HS:=lH (HS.out.step h1)
 replace HT:=lH (Kp.keep HT.out h1)
 clear h1
 go_wp2_with fail
 go_ret
 exact ⟨rfl,HS.out⟩
set_option maxHeartbeats 4000000 in
theorem core (no:Int) (k s:ByteArray) (h:¬ 200 < k.size) (h2:¬ 500 < s.size) (X:ByteArray) (E:Int) (c1:KMk Tabs 6 #[.int .i64 no,.string k] (.tuple #[.string X,.int .i64 E])) (c2:Mak 7 #[.int .i64 no,.string k] (.tuple #[.string X,.int .i64 E])) (n:Int) (x:ByteArray) (e:Int) (c3:KMk Tabs 8 #[.string s] (.tuple #[.int .i64 n,.string x,.int .i64 e])) (c4:Mak 9 #[.string s] (.tuple #[.int .i64 n,.string x,.int .i64 e])) (Z:Int) (c5:KMk Tabs 10 #[.int .i64 no] (.int .i64 Z)) (c6:Mak 11 #[.int .i64 no] (.int .i64 Z))
   (_b1:(X.toList == X.toList) = true) (_b2:(E == E) = true) (_b3:(n == n) = true) (_b4:(x.toList == x.toList) = true) (_b5:(e == e) = true) (_b6:(Z == Z) = true):KMk Tabs 3 #[.int .i64 no,.string k,.string s] (.bool true):=by
 have t1:decide ((200:Int) < (k.size:Int)) = false:=decide_eq_false (by omega)
 have t2:decide ((500:Int) < (s.size:Int)) = false:=decide_eq_false (by omega)
 clear h h2
 intro w hT
 have HT:=lH hT
 have HS:=lH (Since.refl w)
 have c9:=awake_k
 clear hT
 go_enter Tryz.func3,Tryz.ntmps3
 go_wp2_with fail
 refine c1.calls0 HT.out ?_
 intro w1 h1
 replace HS:=lH (HS.out.step h1)
 replace HT:=lH (Kp.keep HT.out h1)
 clear h1
 go_wp2_with fail
 refine c2.calls0 ?_
 intro w1 h1
 replace HS:=lH (HS.out.step h1)
 replace HT:=lH (Kp.keep HT.out h1)
 clear h1
 go_wp2_with fail
 refine c3.calls0 HT.out ?_
 intro w1 h1
 replace HS:=lH (HS.out.step h1)
 replace HT:=lH (Kp.keep HT.out h1)
 clear h1
 go_wp2_with fail
 refine c4.calls0 ?_
 intro w1 h1
 replace HS:=lH (HS.out.step h1)
 replace HT:=lH (Kp.keep HT.out h1)
 clear h1
 go_wp2_with fail
 refine c5.calls0 HT.out ?_
 intro w1 h1
 replace HS:=lH (HS.out.step h1)
 replace HT:=lH (Kp.keep HT.out h1)
 clear h1
 go_wp2_with fail
 refine c6.calls0 ?_
 intro w1 h1
 replace HS:=lH (HS.out.step h1)
 replace HT:=lH (Kp.keep HT.out h1)
 clear h1
 go_wp2_with fail
 refine c9.calls0 HT.out ?_
 intro w1 h1
 replace HS:=lH (HS.out.step h1)
 replace HT:=lH (Kp.keep HT.out h1)
 clear h1
 go_wp2_with fail
 go_ret
 exact ⟨rfl,HS.out⟩
theorem walk (no:Int) (k s:ByteArray) (_w0:(Lit.int .i64 no).wf = true) (_w1:k.size <= maxLen) (_w2:s.size <= maxLen) (w:World) (hT:Tabs w):Calls Tryz.prog 3 #[.int .i64 no,.string k,.string s] w fun e w' => e = .returned (.bool true) /\ Below w.heap.size w w':=by
 by_cases h:200 < k.size
 · exact core_big1 no k s h w hT
 by_cases h2:500 < s.size
 · exact core_big2 no k s h h2 w hT
 obtain ⟨n,x,e,c3,c4⟩:=dec_both s (by omega)
 exact core no k s h h2 _ _ (encode_k no k (by omega) _ _ rfl rfl) (rencode_k no k (by omega) _ _ rfl rfl) n x e c3 c4 _ (size_k no _ rfl) (rsize_k no _ rfl) (beq_self_eq_true _) (beq_self_eq_true _) (beq_self_eq_true _) (beq_self_eq_true _) (beq_self_eq_true _) (beq_self_eq_true _) w hT
theorem own:ownKnob Tryz.prog.godebug = none:=by kernel_rfl
def laidL : List (String × DataW Unit) := [("unicode/utf8.acceptRanges", Rows.laid_unicode_utf8_acceptRanges), ("claviger/curve.lines", Rows.laid_claviger_curve_lines), ("unicode/utf8.first", Rows.laid_unicode_utf8_first)]
theorem lifted (os:Os) (started:os.Started) (H:Type) (enc:TypeId × Value -> H) :
   ReturnsInHanded {} Tryz.checked os 3 .any (fun w args => (Rows.sec1TellsSpec.pre enc Tryz.prog Tryz.f3 [] false w args /\ laidMetH Tryz.prog laidL w) /\ sizedMet enc Tryz.prog Tryz.f3 (OpenSpec.ofChange Rows.sec1TellsSpec) false w args)
     (Rows.sec1TellsSpec.post enc Tryz.prog Tryz.f3 false true false false):=by
 refine returnsInHanded_of_change_and (C:=Tryz.checked) (X:=fun w _ => laidMetH Tryz.prog laidL w) (fun _ _ _ hh h => h.of_heap hh) own started (by kernel_rfl) Tryz.func3
   (ChangeSpec.witness_shaped (enc:=enc) (C:=Tryz.checked) (os:=os) (X:=fun w _ => laidMetH Tryz.prog laidL w) false (World.laidAll Tryz.prog os laidL) #[.int .i64 0,.string ⟨#[]⟩,.string ⟨#[]⟩] 8 (World.laidAll_os _ _ _) (World.shaped_of_ZipB (by kernel_rfl) (by kernel_rfl)) (by kernel_rfl) (by kernel_rfl) (by kernel_rfl) (by rw [MakeChecks.laidMetH_plain _ _ _ (by kernel_rfl)]; exact laidMet_laidAll _ (by kernel_rfl) (by kernel_rfl))) ?_
 intro W base args ds gs before hval0 hW _ _ hL _
 have hval:∀ (j:Nat) t v,Tryz.f3.params[j]? = some t -> args[j]? = some v -> Value.okWide Tryz.prog W .any base t v:=hval0
 have hW':=hW
 obtain ⟨p,q,hA0,hV,rfl,hfz,hnd⟩:=hW
 have hA:DataW.TrodAll enc Tryz.prog W 0 (fun _ => true) true Tryz.f3.params.toList args.toList ds p:=hA0
 rw [Tryz.params3] at hA hval
 obtain ⟨v0,vs0,d0,ds0,p0,q0,hargs,rfl,rfl,h0,r0⟩:=trodAll_cons hA
 obtain ⟨v1,vs1,d1,ds1,p1,q1,rfl,rfl,rfl,h1,r1⟩:=trodAll_cons r0
 obtain ⟨v2,vs2,d2,ds2,p2,q2,rfl,rfl,rfl,h2,r2⟩:=trodAll_cons r1
 obtain ⟨rfl,rfl,rfl⟩:=trodAll_nil r2
 obtain rfl:args = #[v0,v1,v2]:=by cases args; simp_all
 obtain ⟨rfl,rfl⟩:=trodVars_none hV
 obtain ⟨a0,rfl,rfl,rfl,w0⟩:=open_int Tryz.underlying3 (hval 0 3 v0 rfl rfl) h0
 obtain ⟨a1,rfl,rfl,rfl,w1⟩:=Go.ChangeMaps.open_string Tryz.underlying9 (hval 1 9 v1 rfl rfl) h1
 obtain ⟨a2,rfl,rfl,rfl,w2⟩:=Go.ChangeMaps.open_string Tryz.underlying9 (hval 2 9 v2 rfl rfl) h2
 clear hA0 hval0
 simp only [List.append_nil] at hW'
 refine (walk a0 a1 a2 w0 w1 w2 W (Curve.tabs3_of hL)).mono fun e W' ⟨he,hg⟩ => ?_
 subst he
 exact ⟨_,rfl,_,_,_,_,_,[],hW',(trodAll_cons_mk (shut_bool Tryz.underlying4 _) trodAll_mk0),(trodAll_cons_mk (shut_int Tryz.underlying3 w0) (trodAll_cons_mk (Go.ChangeMaps.shut_string Tryz.underlying9 w1) (trodAll_cons_mk (Go.ChangeMaps.shut_string Tryz.underlying9 w2) trodAll_mk0))),rfl,hg.frame _,fun h => by cases h⟩
theorem over:Rows.sec1TellsRow.holds Tryz.pinned (OpenSpec.ofChange Rows.sec1TellsSpec) :=
 OpenClaim.holds_of_wide 3 Tryz.f3 rfl rfl rfl rfl rfl rfl rfl ⟨rfl,rfl,rfl,rfl,rfl⟩ rfl rfl rfl rfl rfl (by kernel_rfl) Tryz.func3 (by kernel_rfl)
   (of_decide_eq_true (by kernel_rfl)) (by unfold Func.isWrapper; first | (rw [if_pos (by decide +kernel)]; kernel_rfl) | (rw [if_neg (by decide +kernel)]; exact ⟨rfl,rfl⟩))
   (fun os started H enc _ => lifted os started H enc)
theorem proved:Rows.Sec1TellsCardSaid :=
 Claim7.holds_tied_plain_at .later [] [.data,.data,.pinned] true Rows.sec1TellsCard.stood.harness false
   over (fun _ h => by cases h) (by kernel_rfl) (fun _ h => by cases h) sec1Tells_row_tie rfl ⟨rfl,rfl⟩ (by kernel_rfl) rfl
   (fun f fn hf hfn => by
     obtain rfl : f = 3 := Option.some.inj ((show Tryz.prog.funcNamed "claviger/clavigerlaw25.Sec1Tells" = some 3 by kernel_rfl).symm.trans hf) |>.symm
     obtain rfl:fn = Tryz.f3:=(Option.some.inj (Tryz.func3.symm.trans hfn)).symm
     exact ⟨by kernel_rfl,fun j t ht => by
       rw [Tryz.params3] at ht
       have hm:t ∈ [3,9,9]:=by simpa using Array.mem_of_getElem? ht
       have hall:([3,9,9].all fun u => !Tryz.prog.wantsStandIn u) = true:=by kernel_rfl
       exact (show Tryz.prog.wantsStandIn t = false by simpa using List.all_eq_true.1 hall t hm)⟩)
   (by kernel_rfl)
end Go.Proofs.YtpanhhjkecebkaaGreatDoor.sec1Tells
