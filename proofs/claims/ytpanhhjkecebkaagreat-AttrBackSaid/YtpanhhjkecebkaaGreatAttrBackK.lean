/- The law AttrBack: what is packed is unpacked as it was, what is unpacked is packed so again; what was set is got, till it is dropped; no conditions. -/
import Derived.Test.YtpanhhjkecebkaaGreatRows
import Derived.WalkKit
import Derived.ProofKit
import Derived.OpenShut
import Derived.Lib.Hide
import Derived.Test.YtpanhhjkecebkaaGreatAq45
import Derived.Test.YtpanhhjkecebkaaGreatAq16
set_option maxRecDepth 100000
namespace Go.Proofs.YtpanhhjkecebkaaGreat.attrBack
open Go.ChangeShapes Go.WideShapes Go.ChangeAt Go.RowKit
open Att Atf Atm
theorem find_up (L:List A2) (p:A2) (h:Atm.Up L) (hp:p ∈ L):getP L p.1 = some p:=by
 unfold getP
 induction L with
 | nil => cases hp
 | cons q l ih =>
   obtain ⟨h1,h2⟩:=List.pairwise_cons.1 h
   rcases List.mem_cons.1 hp with rfl | hp
   · rw [List.find?_cons,decide_eq_true rfl]
   · have:=h1 p hp
     rw [List.find?_cons,decide_eq_false (by omega)]
     exact ih h2 hp
theorem set_mem (l:List A2) (a:A2):a ∈ setA l a:=(with_perm _ a).mem_iff.2 (List.mem_cons_self ..)
theorem drop_no (L:List A2) (t:Int):getB (dropA L t) t = false:=by
 unfold getB getP
 rw [List.find?_eq_none.2 fun q hq => ?_]
 · rfl
 · unfold dropA at hq
   have h9:=(List.mem_filter.1 hq).2
   simpa using h9
theorem drop_set_len (l:List A2) (t:Int) (v:ByteArray):(setA l (t,v)).length = (dropA (setA l (t,v)) t).length + 1:=by
 have hp:(setA l (t,v)).Perm ((t,v) :: dropA l t):=with_perm _ _
 have h1:(dropA (setA l (t,v)) t).Perm (dropA ((t,v) :: dropA l t) t):=hp.filter _
 rw [hp.length_eq,h1.length_eq,drop_eq (t,v) _ t rfl,drop_all (dropA l t) t fun p hp => by
   unfold dropA at hp
   simpa using (List.mem_filter.1 hp).2]
 rfl
structure SetB (t:Int) (v:ByteArray) (R1:List A2) (R2:List A2):Prop where
 g1:getS R1 t = v
 g2:getB R1 t = true
 dr:drpR R1 t = (R2,0)
 g3:getB R2 t = false
 len:R1.length = R2.length + 1
theorem set_back (l:List A2) (t:Int) (v:ByteArray) (h:attOk (setA l (t,v)) = true):SetB t v (setA l (t,v)) (dropA (setA l (t,v)) t):=by
 have h1:=find_up _ _ ((attOk_iff _).1 h).2.1 (set_mem l (t,v))
 have h2:getB (setA l (t,v)) t = true:=by unfold getB; rw [h1]; rfl
 exact ⟨by unfold getS; rw [h1],h2,drpR_3 h h2,drop_no _ _,drop_set_len l t v⟩
theorem core_few (w:World) (A:Option Addr) (n c:Nat) (l:List A2) (t:Int) (v s:ByteArray) (hx:AttsS w (.slice A n c) l) (c0:RdA 7 l (fun x => #[x,.int .i64 60]) (.bool false)):Calls Tryz.prog 5 #[.slice A n c,.int .i64 t,.string v,.string s] w fun e w' => e = .returned (.bool true) /\ Since w w':=by
 have HX:=lH hx
 have HS:=lH (Since.refl w)
 clear hx
 go_enter Tryz.func5,Tryz.ntmps5
 go_wp2_with fail
 refine c0.calls0 HX.out ?_
 intro w0 h0
 replace HS:=lH (HS.out.step h0)
 replace HX:=lH (HX.out.since h0)
 clear h0
 go_wp2_with fail
 refine Atf.awake.calls0 ?_
 intro w9 h9
 replace HS:=lH (HS.out.step h9)
 clear h9
 go_wp2_with fail
 go_ret
 exact ⟨rfl,HS.out⟩
theorem core_long (w:World) (A:Option Addr) (n c:Nat) (l:List A2) (t:Int) (v s:ByteArray) (hx:AttsS w (.slice A n c) l) (hv:300 < v.size) (c0:RdA 7 l (fun x => #[x,.int .i64 60]) (.bool true)):Calls Tryz.prog 5 #[.slice A n c,.int .i64 t,.string v,.string s] w fun e w' => e = .returned (.bool true) /\ Since w w':=by
 have q1:decide ((300:Int) < (v.size:Int)) = true:=decide_eq_true (by omega)
 clear hv
 have HX:=lH hx
 have HS:=lH (Since.refl w)
 clear hx
 go_enter Tryz.func5,Tryz.ntmps5
 go_wp2_with fail
 refine c0.calls0 HX.out ?_
 intro w0 h0
 replace HS:=lH (HS.out.step h0)
 replace HX:=lH (HX.out.since h0)
 clear h0
 go_wp2_with fail
 refine Atf.awake.calls0 ?_
 intro w9 h9
 replace HS:=lH (HS.out.step h9)
 clear h9
 go_wp2_with fail
 go_ret
 exact ⟨rfl,HS.out⟩
theorem core_long2 (w:World) (A:Option Addr) (n c:Nat) (l:List A2) (t:Int) (v s:ByteArray) (hx:AttsS w (.slice A n c) l) (hv:v.size <= 300) (hs:1000 < s.size) (c0:RdA 7 l (fun x => #[x,.int .i64 60]) (.bool true)):Calls Tryz.prog 5 #[.slice A n c,.int .i64 t,.string v,.string s] w fun e w' => e = .returned (.bool true) /\ Since w w':=by
 have q1:decide ((300:Int) < (v.size:Int)) = false:=decide_eq_false (by omega)
 have q2:decide ((1000:Int) < (s.size:Int)) = true:=decide_eq_true (by omega)
 clear hv hs
 have HX:=lH hx
 have HS:=lH (Since.refl w)
 clear hx
 go_enter Tryz.func5,Tryz.ntmps5
 go_wp2_with fail
 refine c0.calls0 HX.out ?_
 intro w0 h0
 replace HS:=lH (HS.out.step h0)
 replace HX:=lH (HX.out.since h0)
 clear h0
 go_wp2_with fail
 refine Atf.awake.calls0 ?_
 intro w9 h9
 replace HS:=lH (HS.out.step h9)
 clear h9
 go_wp2_with fail
 go_ret
 exact ⟨rfl,HS.out⟩
set_option maxHeartbeats 8000000 in
theorem core (w:World) (A:Option Addr) (n c:Nat) (l:List A2) (t:Int) (v s:ByteArray) (hx:AttsS w (.slice A n c) l) (hv:v.size <= 300) (hs:s.size <= 1000) (c0:RdA 7 l (fun x => #[x,.int .i64 60]) (.bool true)) (X:ByteArray) (E:Int) (c1:RdA 18 l (fun x => #[x]) (.tuple #[.string X,.int .i64 E]))
   (h1:(E == 0) = false ∨ ((E == 0) = true /\ UnR 20 X (l,0))) (M:List A2) (F:Int) (c3:UnR 20 s (M,F)) (h3:(F == 0) = false ∨ ((F == 0) = true /\ RdA 18 M (fun x => #[x]) (.tuple #[.string s,.int .i64 0]) /\ RdA 15 M (fun x => #[x]) (.int .i64 0)))
   (R1:List A2) (E1:Int) (c5:AtR 11 l (fun x => #[x,.int .i64 t,.string v]) (R1,E1)) (hm:R1.length <= 1000)
   (hr:((E1 != 0) = true /\ R1 = []) ∨ ((E1 != 0) = false /\ ∃ R2,RdA 9 R1 (fun x => #[x,.int .i64 t]) (.tuple #[.string v,.bool true]) /\ AtR 13 R1 (fun x => #[x,.int .i64 t]) (R2,0) /\ ∃ S9,RdA 9 R2 (fun x => #[x,.int .i64 t]) (.tuple #[.string S9,.bool false]) /\ R1.length = R2.length + 1))
   (ca:EqA 17 l l true):Calls Tryz.prog 5 #[.slice A n c,.int .i64 t,.string v,.string s] w fun e w' => e = .returned (.bool true) /\ Since w w':=by
 have q1:decide ((300:Int) < (v.size:Int)) = false:=decide_eq_false (by omega)
 have q2:decide ((1000:Int) < (s.size:Int)) = false:=decide_eq_false (by omega)
 have t1:(s.toList == s.toList) = true:=beq_self_eq_true _
 have t2:(v.toList == v.toList) = true:=beq_self_eq_true _
 clear hv hs
 have HX:=lH hx
 have HS:=lH (Since.refl w)
 clear hx
 go_enter Tryz.func5,Tryz.ntmps5
 go_wp2_with fail
 refine c0.calls0 HX.out ?_
 intro w0 h0
 replace HS:=lH (HS.out.step h0)
 replace HX:=lH (HX.out.since h0)
 clear h0
 go_wp2_with fail
 refine c1.calls0 HX.out ?_
 intro w1 h9
 replace HS:=lH (HS.out.step h9)
 replace HX:=lH (HX.out.since h9)
 clear h9
 rcases h1 with u0 | ⟨u0,c2⟩
 · rcases h3 with u2 | ⟨u2,c4,c4'⟩
   · go_wp2_with fail
     refine (c3 _).mono ?_
     rintro _ w3 ⟨y3,rfl,hy3,h9⟩
     replace HS:=lH (HS.out.step h9)
     replace HX:=lH (HX.out.since h9)
     have HM:=lH hy3
     obtain ⟨A3,q3,e3,-,-⟩:=hy3.slice
     dsimp only at e3
     obtain ⟨n3,hn3⟩:∃ n,n = M.length:=⟨_,rfl⟩
     rw [<- hn3] at e3
     subst e3
     clear hy3 h9 hn3
     go_wp2_with fail
     refine (c5 _ _ HX.out).mono ?_
     rintro _ w5 ⟨y5,rfl,hy5,h5⟩
     replace HS:=lH (HS.out.step h5)
     replace HX:=lH (HX.out.since h5)
     have HA:=lH hy5
     obtain ⟨A5,q5,e5,-,-⟩:=hy5.slice
     dsimp only at e5
     obtain ⟨n1,hn1⟩:∃ n,n = R1.length:=⟨_,rfl⟩
     rw [<- hn1] at e5
     subst e5
     have HN1:=lH hn1
     clear hy5 h5 hn1
     rcases hr with ⟨u1,hr1⟩ | ⟨u1,R2,c6,c7,S9,c8,hlen⟩
     · obtain rfl:n1 = 0:=by rw [HN1.out,hr1]; rfl
       clear HX HA HN1
       go_wp2_with fail
       refine Atf.awake.calls0 ?_
       intro w9 h9
       replace HS:=lH (HS.out.step h9)
       clear h9
       go_wp2_with fail
       go_ret
       exact ⟨rfl,HS.out⟩
     · have HL:=lH hlen
       clear hlen
       go_wp2_with fail
       refine c6.calls0 HA.out ?_
       intro w6 h6
       replace HS:=lH (HS.out.step h6)
       replace HA:=lH (HA.out.since h6)
       clear h6
       go_wp2_with fail
       refine (c7 _ _ HA.out).mono ?_
       rintro _ w7 ⟨y7,rfl,hy7,h7⟩
       replace HS:=lH (HS.out.step h7)
       have HB:=lH hy7
       obtain ⟨A7,q7,e7,-,-⟩:=hy7.slice
       dsimp only at e7
       obtain ⟨n2,hn2⟩:∃ n,n = R2.length:=⟨_,rfl⟩
       rw [<- hn2] at e7
       subst e7
       have hn12:n1 = n2 + 1:=by rw [HN1.out,hn2]; exact HL.out
       have hle:n1 <= 1000:=by rw [HN1.out]; exact hm
       have t6:IntKind.i64.wrap ((n1:Int) - 1) = (n2:Int):=by rw [IntKind.wrap_i64]; omega
       have t7:((n2:Int) == (n2:Int)) = true:=beq_self_eq_true _
       clear hy7 h7 hn2 HA HL HN1 hn12 hle
       go_wp2_with fail
       refine c8.calls0 HB.out ?_
       intro w8 h8
       replace HS:=lH (HS.out.step h8)
       clear h8 HB
       go_wp2_with fail
       refine Atf.awake.calls0 ?_
       intro w9 h9
       replace HS:=lH (HS.out.step h9)
       clear h9
       go_wp2_with fail
       go_ret
       exact ⟨rfl,HS.out⟩
   · go_wp2_with fail
     refine (c3 _).mono ?_
     rintro _ w3 ⟨y3,rfl,hy3,h9⟩
     replace HS:=lH (HS.out.step h9)
     replace HX:=lH (HX.out.since h9)
     have HM:=lH hy3
     obtain ⟨A3,q3,e3,-,-⟩:=hy3.slice
     dsimp only at e3
     obtain ⟨n3,hn3⟩:∃ n,n = M.length:=⟨_,rfl⟩
     rw [<- hn3] at e3
     subst e3
     clear hy3 h9 hn3
     go_wp2_with fail
     refine c4.calls0 HM.out ?_
     intro w4 h9
     replace HS:=lH (HS.out.step h9)
     replace HX:=lH (HX.out.since h9)
     replace HM:=lH (HM.out.since h9)
     clear h9
     go_wp2_with fail
     refine c4'.calls0 HM.out ?_
     intro w4' h9
     replace HS:=lH (HS.out.step h9)
     replace HX:=lH (HX.out.since h9)
     clear h9 HM
     go_wp2_with fail
     refine (c5 _ _ HX.out).mono ?_
     rintro _ w5 ⟨y5,rfl,hy5,h5⟩
     replace HS:=lH (HS.out.step h5)
     replace HX:=lH (HX.out.since h5)
     have HA:=lH hy5
     obtain ⟨A5,q5,e5,-,-⟩:=hy5.slice
     dsimp only at e5
     obtain ⟨n1,hn1⟩:∃ n,n = R1.length:=⟨_,rfl⟩
     rw [<- hn1] at e5
     subst e5
     have HN1:=lH hn1
     clear hy5 h5 hn1
     rcases hr with ⟨u1,hr1⟩ | ⟨u1,R2,c6,c7,S9,c8,hlen⟩
     · obtain rfl:n1 = 0:=by rw [HN1.out,hr1]; rfl
       clear HX HA HN1
       go_wp2_with fail
       refine Atf.awake.calls0 ?_
       intro w9 h9
       replace HS:=lH (HS.out.step h9)
       clear h9
       go_wp2_with fail
       go_ret
       exact ⟨rfl,HS.out⟩
     · have HL:=lH hlen
       clear hlen
       go_wp2_with fail
       refine c6.calls0 HA.out ?_
       intro w6 h6
       replace HS:=lH (HS.out.step h6)
       replace HA:=lH (HA.out.since h6)
       clear h6
       go_wp2_with fail
       refine (c7 _ _ HA.out).mono ?_
       rintro _ w7 ⟨y7,rfl,hy7,h7⟩
       replace HS:=lH (HS.out.step h7)
       have HB:=lH hy7
       obtain ⟨A7,q7,e7,-,-⟩:=hy7.slice
       dsimp only at e7
       obtain ⟨n2,hn2⟩:∃ n,n = R2.length:=⟨_,rfl⟩
       rw [<- hn2] at e7
       subst e7
       have hn12:n1 = n2 + 1:=by rw [HN1.out,hn2]; exact HL.out
       have hle:n1 <= 1000:=by rw [HN1.out]; exact hm
       have t6:IntKind.i64.wrap ((n1:Int) - 1) = (n2:Int):=by rw [IntKind.wrap_i64]; omega
       have t7:((n2:Int) == (n2:Int)) = true:=beq_self_eq_true _
       clear hy7 h7 hn2 HA HL HN1 hn12 hle
       go_wp2_with fail
       refine c8.calls0 HB.out ?_
       intro w8 h8
       replace HS:=lH (HS.out.step h8)
       clear h8 HB
       go_wp2_with fail
       refine Atf.awake.calls0 ?_
       intro w9 h9
       replace HS:=lH (HS.out.step h9)
       clear h9
       go_wp2_with fail
       go_ret
       exact ⟨rfl,HS.out⟩
 · go_wp2_with fail
   refine (c2 _).mono ?_
   rintro _ w2 ⟨y2,rfl,hy2,h9⟩
   replace HS:=lH (HS.out.step h9)
   replace HX:=lH (HX.out.since h9)
   have HY:=lH hy2
   obtain ⟨A2,q2',e2,-,-⟩:=hy2.slice
   dsimp only at e2
   obtain ⟨n2,hn2⟩:∃ n,n = l.length:=⟨_,rfl⟩
   rw [<- hn2] at e2
   subst e2
   clear hy2 h9 hn2
   go_wp2_with fail
   refine ca.calls0 HX.out HY.out ?_
   intro w2' h9
   replace HS:=lH (HS.out.step h9)
   replace HX:=lH (HX.out.since h9)
   clear h9 HY
   rcases h3 with u2 | ⟨u2,c4,c4'⟩
   · go_wp2_with fail
     refine (c3 _).mono ?_
     rintro _ w3 ⟨y3,rfl,hy3,h9⟩
     replace HS:=lH (HS.out.step h9)
     replace HX:=lH (HX.out.since h9)
     have HM:=lH hy3
     obtain ⟨A3,q3,e3,-,-⟩:=hy3.slice
     dsimp only at e3
     obtain ⟨n3,hn3⟩:∃ n,n = M.length:=⟨_,rfl⟩
     rw [<- hn3] at e3
     subst e3
     clear hy3 h9 hn3
     go_wp2_with fail
     refine (c5 _ _ HX.out).mono ?_
     rintro _ w5 ⟨y5,rfl,hy5,h5⟩
     replace HS:=lH (HS.out.step h5)
     replace HX:=lH (HX.out.since h5)
     have HA:=lH hy5
     obtain ⟨A5,q5,e5,-,-⟩:=hy5.slice
     dsimp only at e5
     obtain ⟨n1,hn1⟩:∃ n,n = R1.length:=⟨_,rfl⟩
     rw [<- hn1] at e5
     subst e5
     have HN1:=lH hn1
     clear hy5 h5 hn1
     rcases hr with ⟨u1,hr1⟩ | ⟨u1,R2,c6,c7,S9,c8,hlen⟩
     · obtain rfl:n1 = 0:=by rw [HN1.out,hr1]; rfl
       clear HX HA HN1
       go_wp2_with fail
       refine Atf.awake.calls0 ?_
       intro w9 h9
       replace HS:=lH (HS.out.step h9)
       clear h9
       go_wp2_with fail
       go_ret
       exact ⟨rfl,HS.out⟩
     · have HL:=lH hlen
       clear hlen
       go_wp2_with fail
       refine c6.calls0 HA.out ?_
       intro w6 h6
       replace HS:=lH (HS.out.step h6)
       replace HA:=lH (HA.out.since h6)
       clear h6
       go_wp2_with fail
       refine (c7 _ _ HA.out).mono ?_
       rintro _ w7 ⟨y7,rfl,hy7,h7⟩
       replace HS:=lH (HS.out.step h7)
       have HB:=lH hy7
       obtain ⟨A7,q7,e7,-,-⟩:=hy7.slice
       dsimp only at e7
       obtain ⟨n2,hn2⟩:∃ n,n = R2.length:=⟨_,rfl⟩
       rw [<- hn2] at e7
       subst e7
       have hn12:n1 = n2 + 1:=by rw [HN1.out,hn2]; exact HL.out
       have hle:n1 <= 1000:=by rw [HN1.out]; exact hm
       have t6:IntKind.i64.wrap ((n1:Int) - 1) = (n2:Int):=by rw [IntKind.wrap_i64]; omega
       have t7:((n2:Int) == (n2:Int)) = true:=beq_self_eq_true _
       clear hy7 h7 hn2 HA HL HN1 hn12 hle
       go_wp2_with fail
       refine c8.calls0 HB.out ?_
       intro w8 h8
       replace HS:=lH (HS.out.step h8)
       clear h8 HB
       go_wp2_with fail
       refine Atf.awake.calls0 ?_
       intro w9 h9
       replace HS:=lH (HS.out.step h9)
       clear h9
       go_wp2_with fail
       go_ret
       exact ⟨rfl,HS.out⟩
   · go_wp2_with fail
     refine (c3 _).mono ?_
     rintro _ w3 ⟨y3,rfl,hy3,h9⟩
     replace HS:=lH (HS.out.step h9)
     replace HX:=lH (HX.out.since h9)
     have HM:=lH hy3
     obtain ⟨A3,q3,e3,-,-⟩:=hy3.slice
     dsimp only at e3
     obtain ⟨n3,hn3⟩:∃ n,n = M.length:=⟨_,rfl⟩
     rw [<- hn3] at e3
     subst e3
     clear hy3 h9 hn3
     go_wp2_with fail
     refine c4.calls0 HM.out ?_
     intro w4 h9
     replace HS:=lH (HS.out.step h9)
     replace HX:=lH (HX.out.since h9)
     replace HM:=lH (HM.out.since h9)
     clear h9
     go_wp2_with fail
     refine c4'.calls0 HM.out ?_
     intro w4' h9
     replace HS:=lH (HS.out.step h9)
     replace HX:=lH (HX.out.since h9)
     clear h9 HM
     go_wp2_with fail
     refine (c5 _ _ HX.out).mono ?_
     rintro _ w5 ⟨y5,rfl,hy5,h5⟩
     replace HS:=lH (HS.out.step h5)
     replace HX:=lH (HX.out.since h5)
     have HA:=lH hy5
     obtain ⟨A5,q5,e5,-,-⟩:=hy5.slice
     dsimp only at e5
     obtain ⟨n1,hn1⟩:∃ n,n = R1.length:=⟨_,rfl⟩
     rw [<- hn1] at e5
     subst e5
     have HN1:=lH hn1
     clear hy5 h5 hn1
     rcases hr with ⟨u1,hr1⟩ | ⟨u1,R2,c6,c7,S9,c8,hlen⟩
     · obtain rfl:n1 = 0:=by rw [HN1.out,hr1]; rfl
       clear HX HA HN1
       go_wp2_with fail
       refine Atf.awake.calls0 ?_
       intro w9 h9
       replace HS:=lH (HS.out.step h9)
       clear h9
       go_wp2_with fail
       go_ret
       exact ⟨rfl,HS.out⟩
     · have HL:=lH hlen
       clear hlen
       go_wp2_with fail
       refine c6.calls0 HA.out ?_
       intro w6 h6
       replace HS:=lH (HS.out.step h6)
       replace HA:=lH (HA.out.since h6)
       clear h6
       go_wp2_with fail
       refine (c7 _ _ HA.out).mono ?_
       rintro _ w7 ⟨y7,rfl,hy7,h7⟩
       replace HS:=lH (HS.out.step h7)
       have HB:=lH hy7
       obtain ⟨A7,q7,e7,-,-⟩:=hy7.slice
       dsimp only at e7
       obtain ⟨n2,hn2⟩:∃ n,n = R2.length:=⟨_,rfl⟩
       rw [<- hn2] at e7
       subst e7
       have hn12:n1 = n2 + 1:=by rw [HN1.out,hn2]; exact HL.out
       have hle:n1 <= 1000:=by rw [HN1.out]; exact hm
       have t6:IntKind.i64.wrap ((n1:Int) - 1) = (n2:Int):=by rw [IntKind.wrap_i64]; omega
       have t7:((n2:Int) == (n2:Int)) = true:=beq_self_eq_true _
       clear hy7 h7 hn2 HA HL HN1 hn12 hle
       go_wp2_with fail
       refine c8.calls0 HB.out ?_
       intro w8 h8
       replace HS:=lH (HS.out.step h8)
       clear h8 HB
       go_wp2_with fail
       refine Atf.awake.calls0 ?_
       intro w9 h9
       replace HS:=lH (HS.out.step h9)
       clear h9
       go_wp2_with fail
       go_ret
       exact ⟨rfl,HS.out⟩
theorem walk (w:World) (A:Option Addr) (n c:Nat) (l:List A2) (t:Int) (v s:ByteArray) (hx:AttsS w (.slice A n c) l) (_hn:n = l.length) (_hp:∀ p ∈ l,(Lit.int .i64 p.1).wf = true /\ p.2.size <= maxLen) (_ht:(Lit.int .i64 t).wf = true) (_hv:v.size <= maxLen) (_hs:s.size <= maxLen):Calls Tryz.prog 5 #[.slice A n c,.int .i64 t,.string v,.string s] w fun e w' => e = .returned (.bool true) /\ Below w.heap.size w w':=by
 have c0:=few_rd l 60 (by decide) _ rfl
 cases hq:fewB l 60 with
 | false => rw [hq] at c0; exact core_few w A n c l t v s hx c0
 | true =>
   rw [hq] at c0
   by_cases hl:300 < v.size
   · exact core_long w A n c l t v s hx hl c0
   by_cases hl2:1000 < s.size
   · exact core_long2 w A n c l t v s hx (by omega) hl2 c0
   have h1:=(fewB_spec l 60 hq).1
   have k1:=pack_rd l
   unfold packW at k1
   have k3:=unpack_u s (by omega)
   have hset:setR l t v = ([],11) ∨ (setR l t v = (setA l (t,v),0) /\ attOk (setA l (t,v)) = true):=by
     cases g1:attOk l with
     | false => exact Or.inl (setR_1 t v g1)
     | true => cases g2:attOk (setA l (t,v)) with
       | false => exact Or.inl (setR_2 g1 g2)
       | true => exact Or.inr ⟨setR_3 g1 g2,rfl⟩
   have k5:=set_mk l t v (by omega) _ rfl
   refine core w A n c l t v s hx (by omega) (by omega) c0 _ _ k1 ?_ (unpV s).1 (unpV s).2 k3 ?_ (setR l t v).1 (setR l t v).2 k5 ?_ ?_ (attrs_same l)
   · cases g1:attOk l with
     | false => exact Or.inl (by unfold packV; rw [if_neg (by rw [g1]; decide)]; rfl)
     | true =>
       have hz:(packV l).2 = 0:=by unfold packV; rw [if_pos g1]
       refine Or.inr ⟨by rw [hz]; rfl, ?_⟩
       have hu:=unpack_u (packV l).1 (by unfold packV; rw [if_pos g1]; have:=cat_size l g1; dsimp only; omega)
       rw [unp_pack l g1] at hu
       exact hu
   · by_cases g1:(unpV s).2 = 0
     · obtain ⟨g2,g3⟩:=pack_unp s (by omega) g1
       have k4:=pack_rd (unpV s).1
       unfold packW at k4
       rw [g2] at k4
       exact Or.inr ⟨by rw [g1]; rfl,k4,check_rd _ _ (attE_yes g3).symm⟩
     · exact Or.inl (beq_eq_false_iff_ne.2 g1)
   · rcases hset with g1 | ⟨g1,-⟩
     · rw [g1]; exact Nat.zero_le _
     · rw [g1]; have:=set_len l (t,v); dsimp only; omega
   · rcases hset with g1 | ⟨g1,g2⟩
     · rw [g1]; exact Or.inl ⟨rfl,rfl⟩
     · rw [g1]
       have hb:=set_back l t v g2
       have k6:=get_rd (setA l (t,v)) t
       unfold getV at k6
       rw [hb.g1,hb.g2] at k6
       have k7:=drop_mk (setA l (t,v)) t (by have:=set_len l (t,v); omega) _ hb.dr.symm
       have k8:=get_rd (dropA (setA l (t,v)) t) t
       unfold getV at k8
       rw [hb.g3] at k8
       exact Or.inr ⟨rfl,_,k6,k7,_,k8,hb.len⟩
theorem own:ownKnob Tryz.prog.godebug = none:=by kernel_rfl
theorem laidOut:laidOutB Tryz.prog = true:=by kernel_rfl
theorem lifted (os:Os) (started:os.Started) (H:Type) (enc:TypeId × Value -> H) :
   ReturnsInHanded {} Tryz.checked os 5 .any (Rows.attrBackSpec.pre6 enc Tryz.prog Tryz.f5 Rows.attrBackRow.domain false) (Rows.attrBackSpec.post enc Tryz.prog Tryz.f5 false true false false):=by
 refine returnsInHanded_of_change (C:=Tryz.checked) own started (by kernel_rfl) Tryz.func5
   (ChangeSpec.witness6 (enc:=enc) (C:=Tryz.checked) false ⟨#[],#[.slice none 0 0,.int .i64 0,.string ⟨#[]⟩,.string ⟨#[]⟩],[]⟩ 8 (by kernel_rfl) (by kernel_rfl) (by kernel_rfl) (by kernel_rfl)) ?_
 intro W base args ds gs before hval0 hW hcnd _
 have hval:∀ (j:Nat) t v,Tryz.f5.params[j]? = some t -> args[j]? = some v -> Value.okWide Tryz.prog W .any base t v:=hval0
 have hW':=hW
 obtain ⟨p,q,hA0,hV,rfl,hfz,hnd⟩:=hW
 have hA:DataW.TrodAll enc Tryz.prog W 0 (fun _ => true) true Tryz.f5.params.toList args.toList ds p:=hA0
 rw [Tryz.params5] at hA hval
 obtain ⟨v0,vs0,d0,ds0,p0,q0,hargs,rfl,rfl,h0,r0⟩:=trodAll_cons hA
 obtain ⟨v1,vs1,d1,ds1,p1,q1,rfl,rfl,rfl,h1,r1⟩:=trodAll_cons r0
 obtain ⟨v2,vs2,d2,ds2,p2,q2,rfl,rfl,rfl,h2,r2⟩:=trodAll_cons r1
 obtain ⟨v3,vs3,d3,ds3,p3,q3,rfl,rfl,rfl,h3,r3⟩:=trodAll_cons r2
 obtain ⟨rfl,rfl,rfl⟩:=trodAll_nil r3
 obtain rfl:args = #[v0,v1,v2,v3]:=by cases args; simp_all
 obtain ⟨rfl,rfl⟩:=trodVars_none hV
 obtain ⟨a0,n0,c0,rfl⟩:=okWide_slice Tryz.underlying22 (hval 0 22 v0 rfl rfl)
 have h0k:=h0
 obtain ⟨fuel0,hf0⟩:=h0
 have hlt0:∀ x ∈ p0,x.block < W.heap.size:=fun x hx => by simpa using hW'.lt x (by simp [hx])
 obtain ⟨x0,lA0,lN0,lX0⟩:=atts_arg hf0 hlt0
 obtain ⟨a1,rfl,rfl,rfl,w1⟩:=open_int Tryz.underlying3 (hval 1 3 v1 rfl rfl) h1
 obtain ⟨a2,rfl,rfl,rfl,w2⟩:=Go.ChangeMaps.open_string Tryz.underlying9 (hval 2 9 v2 rfl rfl) h2
 obtain ⟨a3,rfl,rfl,rfl,w3⟩:=Go.ChangeMaps.open_string Tryz.underlying9 (hval 3 9 v3 rfl rfl) h3
 clear hA0 hval0
 simp only [List.append_nil] at hW'
 refine (walk W a0 n0 c0 x0 a1 a2 a3 lA0 lN0 lX0 w1 w2 w3).mono fun e W' ⟨he,hg⟩ => ?_
 subst he
 exact ⟨_,rfl,_,_,_,_,_,[],hW',(trodAll_cons_mk (shut_bool Tryz.underlying4 _) trodAll_mk0),(trodAll_cons_mk (Below.trod laidOut (by kernel_rfl) (of_decide_eq_true (by kernel_rfl)) h0k hg hlt0) (trodAll_cons_mk (shut_int Tryz.underlying3 w1) (trodAll_cons_mk (Go.ChangeMaps.shut_string Tryz.underlying9 w2) (trodAll_cons_mk (Go.ChangeMaps.shut_string Tryz.underlying9 w3) trodAll_mk0)))),rfl,hg.frame _,fun h => by cases h⟩
theorem over:Rows.attrBackRow.holds Tryz.pinned (OpenSpec.ofChange Rows.attrBackSpec) :=
 OpenClaim.holds_of_wide 5 Tryz.f5 rfl rfl rfl rfl rfl rfl rfl ⟨rfl,rfl,rfl,rfl,rfl⟩ rfl rfl rfl rfl rfl (by kernel_rfl) Tryz.func5 (by kernel_rfl)
   (of_decide_eq_true (by kernel_rfl)) (by unfold Func.isWrapper; first | (rw [if_pos (by decide +kernel)]; kernel_rfl) | (rw [if_neg (by decide +kernel)]; exact ⟨rfl,rfl⟩))
   (fun os started H enc _ => lifted os started H enc)
theorem proved:Rows.AttrBackSaid :=
 over
end Go.Proofs.YtpanhhjkecebkaaGreat.attrBack
