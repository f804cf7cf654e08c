/- The law Pkcs8Back: what is written is read as it was; what is read is written so again; no conditions. -/
import Derived.Test.YtpanhhjkecebkaaRows
import Derived.WalkKit
import Derived.ProofKit
import Derived.OpenShut
import Derived.Lib.Hide
import Derived.Test.YtpanhhjkecebkaaPb29
import Derived.Test.YtpanhhjkecebkaaPb50
set_option maxRecDepth 100000
namespace Go.Proofs.Ytpanhhjkecebkaa.pkcs8Back
open Go.ChangeShapes Go.WideShapes Go.ChangeAt Go.RowKit
def SameR (xs ps:List Int) (key attrs:ByteArray):Prop:=∀ w a b a' b',IntsS w a xs -> IntsS w b ps -> IntsS w a' xs -> IntsS w b' ps -> Calls Try.prog 7 #[.agg #[a,b,.string key,.string attrs],.agg #[a',b',.string key,.string attrs]] w fun e w' => e = .returned (.bool true) /\ Since w w'
theorem big_1 (w:World) (A:Option Addr) (n c:Nat) (xs:List Int) (B:Option Addr) (m e:Nat) (ps:List Int) (key attrs s:ByteArray) (hx:IntsS w (.slice A n c) xs) (hp:IntsS w (.slice B m e) ps) (t1:decide ((60:Int) < (n:Int)) = true):Calls Try.prog 3 #[.agg #[.slice A n c,.slice B m e,.string key,.string attrs],.string s] w fun e w' => e = .returned (.bool true) /\ Below w.heap.size w w':=by
 have hs0:=(Since.refl w).alloc (.cells #[.slice A n c,.slice B m e,.string key,.string attrs] 24)
 have HX:=lH (IntsS.since hx hs0)
 have HP:=lH (IntsS.since hp hs0)
 have HS:=lH hs0
 have HBX:=lH (Pk.BX.new w (.slice A n c) (.slice B m e) key attrs 24)
 obtain ⟨-,b0,b1,b2,b3⟩:=HBX.out
 clear hx hp hs0
 go_enter Try.func3,Try.ntmps3
 go_wp2_with fail
 clear HBX b0 b1 b2 b3
 refine Pk.awake.calls0 ?_
 intro w9 h9
 replace HS:=lH (HS.out.step h9)
 clear h9
 go_wp2_with fail
 go_ret
 exact ⟨rfl,HS.out⟩
theorem big_2 (w:World) (A:Option Addr) (n c:Nat) (xs:List Int) (B:Option Addr) (m e:Nat) (ps:List Int) (key attrs s:ByteArray) (hx:IntsS w (.slice A n c) xs) (hp:IntsS w (.slice B m e) ps) (t1:decide ((60:Int) < (n:Int)) = false) (t2:decide ((60:Int) < (m:Int)) = true):Calls Try.prog 3 #[.agg #[.slice A n c,.slice B m e,.string key,.string attrs],.string s] w fun e w' => e = .returned (.bool true) /\ Below w.heap.size w w':=by
 have hs0:=(Since.refl w).alloc (.cells #[.slice A n c,.slice B m e,.string key,.string attrs] 24)
 have HX:=lH (IntsS.since hx hs0)
 have HP:=lH (IntsS.since hp hs0)
 have HS:=lH hs0
 have HBX:=lH (Pk.BX.new w (.slice A n c) (.slice B m e) key attrs 24)
 obtain ⟨-,b0,b1,b2,b3⟩:=HBX.out
 clear hx hp hs0
 go_enter Try.func3,Try.ntmps3
 go_wp2_with fail
 clear HBX b0 b1 b2 b3
 refine Pk.awake.calls0 ?_
 intro w9 h9
 replace HS:=lH (HS.out.step h9)
 clear h9
 go_wp2_with fail
 go_ret
 exact ⟨rfl,HS.out⟩
theorem big_3 (w:World) (A:Option Addr) (n c:Nat) (xs:List Int) (B:Option Addr) (m e:Nat) (ps:List Int) (key attrs s:ByteArray) (hx:IntsS w (.slice A n c) xs) (hp:IntsS w (.slice B m e) ps) (t1:decide ((60:Int) < (n:Int)) = false) (t2:decide ((60:Int) < (m:Int)) = false) (t3:decide ((500:Int) < (key.size:Int)) = true):Calls Try.prog 3 #[.agg #[.slice A n c,.slice B m e,.string key,.string attrs],.string s] w fun e w' => e = .returned (.bool true) /\ Below w.heap.size w w':=by
 have hs0:=(Since.refl w).alloc (.cells #[.slice A n c,.slice B m e,.string key,.string attrs] 24)
 have HX:=lH (IntsS.since hx hs0)
 have HP:=lH (IntsS.since hp hs0)
 have HS:=lH hs0
 have HBX:=lH (Pk.BX.new w (.slice A n c) (.slice B m e) key attrs 24)
 obtain ⟨-,b0,b1,b2,b3⟩:=HBX.out
 clear hx hp hs0
 go_enter Try.func3,Try.ntmps3
 go_wp2_with fail
 clear HBX b0 b1 b2 b3
 refine Pk.awake.calls0 ?_
 intro w9 h9
 replace HS:=lH (HS.out.step h9)
 clear h9
 go_wp2_with fail
 go_ret
 exact ⟨rfl,HS.out⟩
theorem big_4 (w:World) (A:Option Addr) (n c:Nat) (xs:List Int) (B:Option Addr) (m e:Nat) (ps:List Int) (key attrs s:ByteArray) (hx:IntsS w (.slice A n c) xs) (hp:IntsS w (.slice B m e) ps) (t1:decide ((60:Int) < (n:Int)) = false) (t2:decide ((60:Int) < (m:Int)) = false) (t3:decide ((500:Int) < (key.size:Int)) = false) (t4:decide ((500:Int) < (attrs.size:Int)) = true):Calls Try.prog 3 #[.agg #[.slice A n c,.slice B m e,.string key,.string attrs],.string s] w fun e w' => e = .returned (.bool true) /\ Below w.heap.size w w':=by
 have hs0:=(Since.refl w).alloc (.cells #[.slice A n c,.slice B m e,.string key,.string attrs] 24)
 have HX:=lH (IntsS.since hx hs0)
 have HP:=lH (IntsS.since hp hs0)
 have HS:=lH hs0
 have HBX:=lH (Pk.BX.new w (.slice A n c) (.slice B m e) key attrs 24)
 obtain ⟨-,b0,b1,b2,b3⟩:=HBX.out
 clear hx hp hs0
 go_enter Try.func3,Try.ntmps3
 go_wp2_with fail
 clear HBX b0 b1 b2 b3
 refine Pk.awake.calls0 ?_
 intro w9 h9
 replace HS:=lH (HS.out.step h9)
 clear h9
 go_wp2_with fail
 go_ret
 exact ⟨rfl,HS.out⟩
theorem big_5 (w:World) (A:Option Addr) (n c:Nat) (xs:List Int) (B:Option Addr) (m e:Nat) (ps:List Int) (key attrs s:ByteArray) (hx:IntsS w (.slice A n c) xs) (hp:IntsS w (.slice B m e) ps) (t1:decide ((60:Int) < (n:Int)) = false) (t2:decide ((60:Int) < (m:Int)) = false) (t3:decide ((500:Int) < (key.size:Int)) = false) (t4:decide ((500:Int) < (attrs.size:Int)) = false) (t5:decide ((1000:Int) < (s.size:Int)) = true):Calls Try.prog 3 #[.agg #[.slice A n c,.slice B m e,.string key,.string attrs],.string s] w fun e w' => e = .returned (.bool true) /\ Below w.heap.size w w':=by
 have hs0:=(Since.refl w).alloc (.cells #[.slice A n c,.slice B m e,.string key,.string attrs] 24)
 have HX:=lH (IntsS.since hx hs0)
 have HP:=lH (IntsS.since hp hs0)
 have HS:=lH hs0
 have HBX:=lH (Pk.BX.new w (.slice A n c) (.slice B m e) key attrs 24)
 obtain ⟨-,b0,b1,b2,b3⟩:=HBX.out
 clear hx hp hs0
 go_enter Try.func3,Try.ntmps3
 go_wp2_with fail
 clear HBX b0 b1 b2 b3
 refine Pk.awake.calls0 ?_
 intro w9 h9
 replace HS:=lH (HS.out.step h9)
 clear h9
 go_wp2_with fail
 go_ret
 exact ⟨rfl,HS.out⟩
set_option maxHeartbeats 8000000 in
theorem core (w:World) (A:Option Addr) (n c:Nat) (xs:List Int) (B:Option Addr) (m e:Nat) (ps:List Int) (key attrs s:ByteArray) (hx:IntsS w (.slice A n c) xs) (hp:IntsS w (.slice B m e) ps)
   (t1:decide ((60:Int) < (n:Int)) = false) (t2:decide ((60:Int) < (m:Int)) = false) (t3:decide ((500:Int) < (key.size:Int)) = false) (t4:decide ((500:Int) < (attrs.size:Int)) = false) (t5:decide ((1000:Int) < (s.size:Int)) = false)
   (X:ByteArray) (E:Int) (c1:Pk.RdP 5 xs ps key attrs (.tuple #[.string X,.int .i64 E])) (h1:(E == 0) = false ∨ ((E == 0) = true /\ Pk.DecI 6 X xs ps key attrs 0)) (cs:SameR xs ps key attrs)
   (ys qs:List Int) (k2a a2a:ByteArray) (F:Int) (c3:Pk.DecI 6 s ys qs k2a a2a F) (h3:((F != 0) = true /\ ys = [] /\ qs = [] /\ k2a = ⟨#[]⟩ /\ a2a = ⟨#[]⟩ /\ SameR [] [] ⟨#[]⟩ ⟨#[]⟩) ∨ ((F != 0) = false /\ Pk.RdP 5 ys qs k2a a2a (.tuple #[.string s,.int .i64 0]))) (_ts:(s.toList == s.toList) = true) :
   Calls Try.prog 3 #[.agg #[.slice A n c,.slice B m e,.string key,.string attrs],.string s] w fun e w' => e = .returned (.bool true) /\ Below w.heap.size w w':=by
 have hs0:=(Since.refl w).alloc (.cells #[.slice A n c,.slice B m e,.string key,.string attrs] 24)
 have HX:=lH (IntsS.since hx hs0)
 have HP:=lH (IntsS.since hp hs0)
 have HS:=lH hs0
 have HBX:=lH (Pk.BX.new w (.slice A n c) (.slice B m e) key attrs 24)
 obtain ⟨-,b0,b1,b2,b3⟩:=HBX.out
 clear hx hp hs0
 go_enter Try.func3,Try.ntmps3
 go_wp2_with fail
 refine (c1 _ _ _ HX.out HP.out).mono ?_
 rintro _ w1 ⟨rfl,h9⟩
 replace HS:=lH (HS.out.step h9)
 replace HX:=lH (HX.out.since h9)
 replace HP:=lH (HP.out.since h9)
 replace HBX:=lH (HBX.out.since h9)
 clear b0 b1 b2 b3 h9
 obtain ⟨-,b0,b1,b2,b3⟩:=HBX.out
 rcases h1 with u1 | ⟨u1,c2⟩
 · go_wp2_with fail
   rcases h3 with ⟨u3,e1,e2,e3,e4,c0⟩ | ⟨u3,c4⟩
   · have HN:=lH (And.intro e1 e2)
     subst e3
     subst e4
     clear e1 e2
     refine (c3 _).mono ?_
     rintro _ w4 ⟨v1,v2,rfl,hv1,hv2,h9⟩
     replace HS:=lH (HS.out.step h9)
     replace HX:=lH (HX.out.since h9)
     replace HP:=lH (HP.out.since h9)
     replace HBX:=lH (HBX.out.since h9)
     obtain ⟨A1,q1,rfl,-,-⟩:=hv1.slice
     obtain ⟨A2,q2,rfl,-,-⟩:=hv2.slice
     obtain ⟨n1,hn1⟩:∃ n,n = (ys).length:=⟨_,rfl⟩
     obtain ⟨n2,hn2⟩:∃ n,n = (qs).length:=⟨_,rfl⟩
     rw [<- hn1] at hv1 ⊢
     rw [<- hn2] at hv2 ⊢
     have r1:(w4.alloc (.cells #[.slice none 0 0,.slice none 0 0,.string ⟨#[]⟩,.string ⟨#[]⟩] 29)).heap[w4.heap.size]? = some (.cells #[.slice none 0 0,.slice none 0 0,.string ⟨#[]⟩,.string ⟨#[]⟩] 29 (0,0)):=heap_alloc_new w4 _
     have hsr:=Pk.since_row ((Since.refl w4).alloc (.cells #[.slice none 0 0,.slice none 0 0,.string ⟨#[]⟩,.string ⟨#[]⟩] 29)) (Nat.le_refl _) #[.slice A1 n1 q1,.slice A2 n2 q2,.string ⟨#[]⟩,.string ⟨#[]⟩]
     have hi:=Pk.hi_mk w r1 #[.slice A1 n1 q1,.slice A2 n2 q2,.string ⟨#[]⟩,.string ⟨#[]⟩]
     replace HS:=lH (HS.out.step hsr)
     replace HX:=lH (HX.out.since hsr)
     replace HP:=lH (HP.out.since hsr)
     replace HBX:=lH (HBX.out.since hsr)
     have HU1:=lH (hv1.since hsr)
     have HU2:=lH (hv2.since hsr)
     clear b0 b1 b2 b3
     obtain ⟨-,b0,b1,b2,b3⟩:=HBX.out
     have k0:=Tlv.hr_cell hi 0 _ rfl
     have k1:=Tlv.hr_cell hi 1 _ rfl
     have k2:=Tlv.hr_cell hi 2 _ rfl
     have k3:=Tlv.hr_cell hi 3 _ rfl
     clear hi hsr h9 hv1 hv2 hn1 hn2
     go_wp2_with (refine RwL.at_store (ty:=29) rfl ?_; refine wpList_store_row rfl 29 _ _ rfl w4.heap.size #[.slice A1 n1 q1,.slice A2 n2 q2,.string ⟨#[]⟩,.string ⟨#[]⟩] (by rfl) (by rfl) _ _ r1 (Pk.i4_info _ _ _ _) rfl (Pk.i4_one _ _ _ _ _ _ _ _) ?_; generalize (w4.alloc (.cells #[.slice none 0 0,.slice none 0 0,.string ⟨#[]⟩,.string ⟨#[]⟩] 29)).setRow w4.heap.size #[.slice A1 n1 q1,.slice A2 n2 q2,.string ⟨#[]⟩,.string ⟨#[]⟩] = w4Z at HS HX HP HBX HU1 HU2 b0 b1 b2 b3 k0 k1 k2 k3 ⊢; clear r1)
     refine (c0 _ _ _ _ _ (by rw [<- HN.out.1]; exact HU1.out) (by rw [<- HN.out.2]; exact HU2.out) (IntsS.nil _) (IntsS.nil _)).mono ?_
     rintro _ w5 ⟨rfl,h9⟩
     replace HS:=lH (HS.out.step h9)
     clear h9 k0 k1 k2 k3 HU1 HU2 HX HP HBX b0 b1 b2 b3
     go_wp2_with fail
     refine Pk.awake.calls0 ?_
     intro w9 h9
     replace HS:=lH (HS.out.step h9)
     clear h9
     go_wp2_with fail
     go_ret
     exact ⟨rfl,HS.out⟩
   · refine (c3 _).mono ?_
     rintro _ w4 ⟨v1,v2,rfl,hv1,hv2,h9⟩
     replace HS:=lH (HS.out.step h9)
     replace HX:=lH (HX.out.since h9)
     replace HP:=lH (HP.out.since h9)
     replace HBX:=lH (HBX.out.since h9)
     obtain ⟨A1,q1,rfl,-,-⟩:=hv1.slice
     obtain ⟨A2,q2,rfl,-,-⟩:=hv2.slice
     obtain ⟨n1,hn1⟩:∃ n,n = (ys).length:=⟨_,rfl⟩
     obtain ⟨n2,hn2⟩:∃ n,n = (qs).length:=⟨_,rfl⟩
     rw [<- hn1] at hv1 ⊢
     rw [<- hn2] at hv2 ⊢
     have r1:(w4.alloc (.cells #[.slice none 0 0,.slice none 0 0,.string ⟨#[]⟩,.string ⟨#[]⟩] 29)).heap[w4.heap.size]? = some (.cells #[.slice none 0 0,.slice none 0 0,.string ⟨#[]⟩,.string ⟨#[]⟩] 29 (0,0)):=heap_alloc_new w4 _
     have hsr:=Pk.since_row ((Since.refl w4).alloc (.cells #[.slice none 0 0,.slice none 0 0,.string ⟨#[]⟩,.string ⟨#[]⟩] 29)) (Nat.le_refl _) #[.slice A1 n1 q1,.slice A2 n2 q2,.string k2a,.string a2a]
     have hi:=Pk.hi_mk w r1 #[.slice A1 n1 q1,.slice A2 n2 q2,.string k2a,.string a2a]
     replace HS:=lH (HS.out.step hsr)
     replace HX:=lH (HX.out.since hsr)
     replace HP:=lH (HP.out.since hsr)
     replace HBX:=lH (HBX.out.since hsr)
     have HU1:=lH (hv1.since hsr)
     have HU2:=lH (hv2.since hsr)
     clear b0 b1 b2 b3
     obtain ⟨-,b0,b1,b2,b3⟩:=HBX.out
     have k0:=Tlv.hr_cell hi 0 _ rfl
     have k1:=Tlv.hr_cell hi 1 _ rfl
     have k2:=Tlv.hr_cell hi 2 _ rfl
     have k3:=Tlv.hr_cell hi 3 _ rfl
     clear hi hsr h9 hv1 hv2 hn1 hn2
     go_wp2_with (refine RwL.at_store (ty:=29) rfl ?_; refine wpList_store_row rfl 29 _ _ rfl w4.heap.size #[.slice A1 n1 q1,.slice A2 n2 q2,.string k2a,.string a2a] (by rfl) (by rfl) _ _ r1 (Pk.i4_info _ _ _ _) rfl (Pk.i4_one _ _ _ _ _ _ _ _) ?_; generalize (w4.alloc (.cells #[.slice none 0 0,.slice none 0 0,.string ⟨#[]⟩,.string ⟨#[]⟩] 29)).setRow w4.heap.size #[.slice A1 n1 q1,.slice A2 n2 q2,.string k2a,.string a2a] = w4Z at HS HX HP HBX HU1 HU2 b0 b1 b2 b3 k0 k1 k2 k3 ⊢; clear r1)
     refine (c4 _ _ _ HU1.out HU2.out).mono ?_
     rintro _ w5 ⟨rfl,h9⟩
     replace HS:=lH (HS.out.step h9)
     clear h9 k0 k1 k2 k3 HU1 HU2 HX HP HBX b0 b1 b2 b3
     go_wp2_with fail
     refine Pk.awake.calls0 ?_
     intro w9 h9
     replace HS:=lH (HS.out.step h9)
     clear h9
     go_wp2_with fail
     go_ret
     exact ⟨rfl,HS.out⟩
 · go_wp2_with fail
   refine (c2 _).mono ?_
   rintro _ w2 ⟨v1,v2,rfl,hv1,hv2,h9⟩
   replace HS:=lH (HS.out.step h9)
   replace HX:=lH (HX.out.since h9)
   replace HP:=lH (HP.out.since h9)
   replace HBX:=lH (HBX.out.since h9)
   obtain ⟨A1,q1,rfl,-,-⟩:=hv1.slice
   obtain ⟨A2,q2,rfl,-,-⟩:=hv2.slice
   obtain ⟨n1,hn1⟩:∃ n,n = (xs).length:=⟨_,rfl⟩
   obtain ⟨n2,hn2⟩:∃ n,n = (ps).length:=⟨_,rfl⟩
   rw [<- hn1] at hv1 ⊢
   rw [<- hn2] at hv2 ⊢
   have r1:(w2.alloc (.cells #[.slice none 0 0,.slice none 0 0,.string ⟨#[]⟩,.string ⟨#[]⟩] 29)).heap[w2.heap.size]? = some (.cells #[.slice none 0 0,.slice none 0 0,.string ⟨#[]⟩,.string ⟨#[]⟩] 29 (0,0)):=heap_alloc_new w2 _
   have hsr:=Pk.since_row ((Since.refl w2).alloc (.cells #[.slice none 0 0,.slice none 0 0,.string ⟨#[]⟩,.string ⟨#[]⟩] 29)) (Nat.le_refl _) #[.slice A1 n1 q1,.slice A2 n2 q2,.string key,.string attrs]
   have hi:=Pk.hi_mk w r1 #[.slice A1 n1 q1,.slice A2 n2 q2,.string key,.string attrs]
   replace HS:=lH (HS.out.step hsr)
   replace HX:=lH (HX.out.since hsr)
   replace HP:=lH (HP.out.since hsr)
   replace HBX:=lH (HBX.out.since hsr)
   have HU1:=lH (hv1.since hsr)
   have HU2:=lH (hv2.since hsr)
   clear b0 b1 b2 b3
   obtain ⟨-,b0,b1,b2,b3⟩:=HBX.out
   have k0:=Tlv.hr_cell hi 0 _ rfl
   have k1:=Tlv.hr_cell hi 1 _ rfl
   have k2:=Tlv.hr_cell hi 2 _ rfl
   have k3:=Tlv.hr_cell hi 3 _ rfl
   clear hi hsr h9 hv1 hv2 hn1 hn2
   go_wp2_with (refine RwL.at_store (ty:=29) rfl ?_; refine wpList_store_row rfl 29 _ _ rfl w2.heap.size #[.slice A1 n1 q1,.slice A2 n2 q2,.string key,.string attrs] (by rfl) (by rfl) _ _ r1 (Pk.i4_info _ _ _ _) rfl (Pk.i4_one _ _ _ _ _ _ _ _) ?_; generalize (w2.alloc (.cells #[.slice none 0 0,.slice none 0 0,.string ⟨#[]⟩,.string ⟨#[]⟩] 29)).setRow w2.heap.size #[.slice A1 n1 q1,.slice A2 n2 q2,.string key,.string attrs] = w2Z at HS HX HP HBX HU1 HU2 b0 b1 b2 b3 k0 k1 k2 k3 ⊢; clear r1)
   refine (cs _ _ _ _ _ HU1.out HU2.out HX.out HP.out).mono ?_
   rintro _ w3 ⟨rfl,h9⟩
   replace HS:=lH (HS.out.step h9)
   replace HX:=lH (HX.out.since h9)
   replace HP:=lH (HP.out.since h9)
   replace HBX:=lH (HBX.out.since h9)
   clear b0 b1 b2 b3 k0 k1 k2 k3 h9 HU1 HU2
   obtain ⟨-,b0,b1,b2,b3⟩:=HBX.out
   go_wp2_with fail
   rcases h3 with ⟨u3,e1,e2,e3,e4,c0⟩ | ⟨u3,c4⟩
   · have HN:=lH (And.intro e1 e2)
     subst e3
     subst e4
     clear e1 e2
     refine (c3 _).mono ?_
     rintro _ w4 ⟨v1,v2,rfl,hv1,hv2,h9⟩
     replace HS:=lH (HS.out.step h9)
     replace HX:=lH (HX.out.since h9)
     replace HP:=lH (HP.out.since h9)
     replace HBX:=lH (HBX.out.since h9)
     obtain ⟨A1,q1,rfl,-,-⟩:=hv1.slice
     obtain ⟨A2,q2,rfl,-,-⟩:=hv2.slice
     obtain ⟨n1,hn1⟩:∃ n,n = (ys).length:=⟨_,rfl⟩
     obtain ⟨n2,hn2⟩:∃ n,n = (qs).length:=⟨_,rfl⟩
     rw [<- hn1] at hv1 ⊢
     rw [<- hn2] at hv2 ⊢
     have r1:(w4.alloc (.cells #[.slice none 0 0,.slice none 0 0,.string ⟨#[]⟩,.string ⟨#[]⟩] 29)).heap[w4.heap.size]? = some (.cells #[.slice none 0 0,.slice none 0 0,.string ⟨#[]⟩,.string ⟨#[]⟩] 29 (0,0)):=heap_alloc_new w4 _
     have hsr:=Pk.since_row ((Since.refl w4).alloc (.cells #[.slice none 0 0,.slice none 0 0,.string ⟨#[]⟩,.string ⟨#[]⟩] 29)) (Nat.le_refl _) #[.slice A1 n1 q1,.slice A2 n2 q2,.string ⟨#[]⟩,.string ⟨#[]⟩]
     have hi:=Pk.hi_mk w r1 #[.slice A1 n1 q1,.slice A2 n2 q2,.string ⟨#[]⟩,.string ⟨#[]⟩]
     replace HS:=lH (HS.out.step hsr)
     replace HX:=lH (HX.out.since hsr)
     replace HP:=lH (HP.out.since hsr)
     replace HBX:=lH (HBX.out.since hsr)
     have HU1:=lH (hv1.since hsr)
     have HU2:=lH (hv2.since hsr)
     clear b0 b1 b2 b3
     obtain ⟨-,b0,b1,b2,b3⟩:=HBX.out
     have k0:=Tlv.hr_cell hi 0 _ rfl
     have k1:=Tlv.hr_cell hi 1 _ rfl
     have k2:=Tlv.hr_cell hi 2 _ rfl
     have k3:=Tlv.hr_cell hi 3 _ rfl
     clear hi hsr h9 hv1 hv2 hn1 hn2
     go_wp2_with (refine RwL.at_store (ty:=29) rfl ?_; refine wpList_store_row rfl 29 _ _ rfl w4.heap.size #[.slice A1 n1 q1,.slice A2 n2 q2,.string ⟨#[]⟩,.string ⟨#[]⟩] (by rfl) (by rfl) _ _ r1 (Pk.i4_info _ _ _ _) rfl (Pk.i4_one _ _ _ _ _ _ _ _) ?_; generalize (w4.alloc (.cells #[.slice none 0 0,.slice none 0 0,.string ⟨#[]⟩,.string ⟨#[]⟩] 29)).setRow w4.heap.size #[.slice A1 n1 q1,.slice A2 n2 q2,.string ⟨#[]⟩,.string ⟨#[]⟩] = w4Z at HS HX HP HBX HU1 HU2 b0 b1 b2 b3 k0 k1 k2 k3 ⊢; clear r1)
     refine (c0 _ _ _ _ _ (by rw [<- HN.out.1]; exact HU1.out) (by rw [<- HN.out.2]; exact HU2.out) (IntsS.nil _) (IntsS.nil _)).mono ?_
     rintro _ w5 ⟨rfl,h9⟩
     replace HS:=lH (HS.out.step h9)
     clear h9 k0 k1 k2 k3 HU1 HU2 HX HP HBX b0 b1 b2 b3
     go_wp2_with fail
     refine Pk.awake.calls0 ?_
     intro w9 h9
     replace HS:=lH (HS.out.step h9)
     clear h9
     go_wp2_with fail
     go_ret
     exact ⟨rfl,HS.out⟩
   · refine (c3 _).mono ?_
     rintro _ w4 ⟨v1,v2,rfl,hv1,hv2,h9⟩
     replace HS:=lH (HS.out.step h9)
     replace HX:=lH (HX.out.since h9)
     replace HP:=lH (HP.out.since h9)
     replace HBX:=lH (HBX.out.since h9)
     obtain ⟨A1,q1,rfl,-,-⟩:=hv1.slice
     obtain ⟨A2,q2,rfl,-,-⟩:=hv2.slice
     obtain ⟨n1,hn1⟩:∃ n,n = (ys).length:=⟨_,rfl⟩
     obtain ⟨n2,hn2⟩:∃ n,n = (qs).length:=⟨_,rfl⟩
     rw [<- hn1] at hv1 ⊢
     rw [<- hn2] at hv2 ⊢
     have r1:(w4.alloc (.cells #[.slice none 0 0,.slice none 0 0,.string ⟨#[]⟩,.string ⟨#[]⟩] 29)).heap[w4.heap.size]? = some (.cells #[.slice none 0 0,.slice none 0 0,.string ⟨#[]⟩,.string ⟨#[]⟩] 29 (0,0)):=heap_alloc_new w4 _
     have hsr:=Pk.since_row ((Since.refl w4).alloc (.cells #[.slice none 0 0,.slice none 0 0,.string ⟨#[]⟩,.string ⟨#[]⟩] 29)) (Nat.le_refl _) #[.slice A1 n1 q1,.slice A2 n2 q2,.string k2a,.string a2a]
     have hi:=Pk.hi_mk w r1 #[.slice A1 n1 q1,.slice A2 n2 q2,.string k2a,.string a2a]
     replace HS:=lH (HS.out.step hsr)
     replace HX:=lH (HX.out.since hsr)
     replace HP:=lH (HP.out.since hsr)
     replace HBX:=lH (HBX.out.since hsr)
     have HU1:=lH (hv1.since hsr)
     have HU2:=lH (hv2.since hsr)
     clear b0 b1 b2 b3
     obtain ⟨-,b0,b1,b2,b3⟩:=HBX.out
     have k0:=Tlv.hr_cell hi 0 _ rfl
     have k1:=Tlv.hr_cell hi 1 _ rfl
     have k2:=Tlv.hr_cell hi 2 _ rfl
     have k3:=Tlv.hr_cell hi 3 _ rfl
     clear hi hsr h9 hv1 hv2 hn1 hn2
     go_wp2_with (refine RwL.at_store (ty:=29) rfl ?_; refine wpList_store_row rfl 29 _ _ rfl w4.heap.size #[.slice A1 n1 q1,.slice A2 n2 q2,.string k2a,.string a2a] (by rfl) (by rfl) _ _ r1 (Pk.i4_info _ _ _ _) rfl (Pk.i4_one _ _ _ _ _ _ _ _) ?_; generalize (w4.alloc (.cells #[.slice none 0 0,.slice none 0 0,.string ⟨#[]⟩,.string ⟨#[]⟩] 29)).setRow w4.heap.size #[.slice A1 n1 q1,.slice A2 n2 q2,.string k2a,.string a2a] = w4Z at HS HX HP HBX HU1 HU2 b0 b1 b2 b3 k0 k1 k2 k3 ⊢; clear r1)
     refine (c4 _ _ _ HU1.out HU2.out).mono ?_
     rintro _ w5 ⟨rfl,h9⟩
     replace HS:=lH (HS.out.step h9)
     clear h9 k0 k1 k2 k3 HU1 HU2 HX HP HBX b0 b1 b2 b3
     go_wp2_with fail
     refine Pk.awake.calls0 ?_
     intro w9 h9
     replace HS:=lH (HS.out.step h9)
     clear h9
     go_wp2_with fail
     go_ret
     exact ⟨rfl,HS.out⟩
theorem walk (w:World) (A:Option Addr) (n c:Nat) (xs:List Int) (B:Option Addr) (m e:Nat) (ps:List Int) (key attrs s:ByteArray) (hx:IntsS w (.slice A n c) xs) (hn:n = xs.length) (_f1:∀ x ∈ xs,(Lit.int .i64 x).wf = true) (hp:IntsS w (.slice B m e) ps) (hm:m = ps.length) (_f2:∀ x ∈ ps,(Lit.int .i64 x).wf = true) (_f3:key.size <= maxLen) (_f4:attrs.size <= maxLen) (_f5:s.size <= maxLen):Calls Try.prog 3 #[.agg #[.slice A n c,.slice B m e,.string key,.string attrs],.string s] w fun e w' => e = .returned (.bool true) /\ Below w.heap.size w w':=by
 by_cases z1:60 < n
 · exact big_1 w A n c xs B m e ps key attrs s hx hp (decide_eq_true (by omega))
 by_cases z2:60 < m
 · exact big_2 w A n c xs B m e ps key attrs s hx hp (decide_eq_false (by omega)) (decide_eq_true (by omega))
 by_cases z3:500 < key.size
 · exact big_3 w A n c xs B m e ps key attrs s hx hp (decide_eq_false (by omega)) (decide_eq_false (by omega)) (decide_eq_true (by omega))
 by_cases z4:500 < attrs.size
 · exact big_4 w A n c xs B m e ps key attrs s hx hp (decide_eq_false (by omega)) (decide_eq_false (by omega)) (decide_eq_false (by omega)) (decide_eq_true (by omega))
 by_cases z5:1000 < s.size
 · exact big_5 w A n c xs B m e ps key attrs s hx hp (decide_eq_false (by omega)) (decide_eq_false (by omega)) (decide_eq_false (by omega)) (decide_eq_false (by omega)) (decide_eq_true (by omega))
 have sr:∀ xs ps key attrs,SameR xs ps key attrs:=fun xs ps key attrs => Pk.same_rd xs ps key attrs (pints_rd xs xs true (by simp)) (pints_rd ps ps true (by simp)) (beq_self_eq_true _) (beq_self_eq_true _)
 have c1:=Pk.pencode_rd xs ps key attrs (by omega) (by omega)
 unfold Pk.pencW at c1
 obtain ⟨ys,qs,k2,a2,F,c3,h3⟩:=Pk.dec_ways s (by omega)
 refine core w A n c xs B m e ps key attrs s hx hp (decide_eq_false (by omega)) (decide_eq_false (by omega)) (decide_eq_false (by omega)) (decide_eq_false (by omega)) (decide_eq_false (by omega)) _ _ c1 ?_ (sr _ _ _ _) ys qs k2 a2 F c3 ?_ (beq_self_eq_true _)
 · by_cases hk:Pk.pkOk xs ps key attrs
   · have hb:=Pk.back_ways (by omega) (by omega) hk
     refine Or.inr ?_
     unfold Pk.pencV
     rw [if_pos hk]
     exact ⟨rfl,hb⟩
   · refine Or.inl ?_
     unfold Pk.pencV
     rw [if_neg hk]
     rfl
 · rcases h3 with ⟨h4,h5,h6,h7,h8⟩ | ⟨h4,h5⟩
   · exact Or.inl ⟨bne_iff_ne.2 h4,h5,h6,h7,h8,sr _ _ _ _⟩
   · subst h4
     have c4:=Pk.pencode_rd ys qs k2 a2 (by have:=h5.kl; omega) (by have:=h5.al; omega)
     rw [Pk.pencW_yes h5.ok,h5.eq] at c4
     exact Or.inr ⟨rfl,c4⟩
theorem own:ownKnob Try.prog.godebug = none:=by kernel_rfl
theorem laidOut:laidOutB Try.prog = true:=by kernel_rfl
theorem lifted (os:Os) (started:os.Started) (H:Type) (enc:TypeId × Value -> H) :
   ReturnsInHanded {} Try.checked os 3 .any (Rows.pkcs8BackSpec.pre6 enc Try.prog Try.f3 Rows.pkcs8BackRow.domain false) (Rows.pkcs8BackSpec.post enc Try.prog Try.f3 false true false false):=by
 refine returnsInHanded_of_change (C:=Try.checked) own started (by kernel_rfl) Try.func3
   (ChangeSpec.witness6 (enc:=enc) (C:=Try.checked) false ⟨#[],#[.agg #[.slice none 0 0,.slice none 0 0,.string ⟨#[]⟩,.string ⟨#[]⟩],.string ⟨#[]⟩],[]⟩ 8 (by kernel_rfl) (by kernel_rfl) (by kernel_rfl) (by kernel_rfl)) ?_
 intro W base args ds gs before hval0 hW hcnd _
 have hval:∀ (j:Nat) t v,Try.f3.params[j]? = some t -> args[j]? = some v -> Value.okWide Try.prog W .any base t v:=hval0
 have hW':=hW
 obtain ⟨p,q,hA0,hV,rfl,hfz,hnd⟩:=hW
 have hA:DataW.TrodAll enc Try.prog W 0 (fun _ => true) true Try.f3.params.toList args.toList ds p:=hA0
 rw [Try.params3] at hA hval
 obtain ⟨v0,vs0,d0,ds0,p0,q0,hargs,rfl,rfl,h0,r0⟩:=trodAll_cons hA
 obtain ⟨v1,vs1,d1,ds1,p1,q1,rfl,rfl,rfl,h1,r1⟩:=trodAll_cons r0
 obtain ⟨rfl,rfl,rfl⟩:=trodAll_nil r1
 obtain rfl:args = #[v0,v1]:=by cases args; simp_all
 obtain ⟨rfl,rfl⟩:=trodVars_none hV
 have h0k:=h0
 have hlt0:∀ x ∈ p0,x.block < W.heap.size:=fun x hx => by simpa using hW'.lt x (by simp [hx])
 obtain ⟨a0_A,a0_n,a0_c,a0_xs,a0_B,a0_m,a0_e,a0_ps,a0_key,a0_attrs,rfl,f0_0,f0_1,f0_2,f0_3,f0_4,f0_5,f0_6,f0_7⟩:=Pk.info_arg (hval 0 24 v0 rfl rfl) h0 hlt0
 obtain ⟨a1,rfl,rfl,rfl,w1⟩:=Go.ChangeMaps.open_string Try.underlying9 (hval 1 9 v1 rfl rfl) h1
 clear hA0 hval0
 simp only [List.append_nil] at hW'
 refine (walk W a0_A a0_n a0_c a0_xs a0_B a0_m a0_e a0_ps a0_key a0_attrs a1 f0_0 f0_1 f0_2 f0_3 f0_4 f0_5 f0_6 f0_7 w1).mono fun e W' ⟨he,hg⟩ => ?_
 subst he
 exact ⟨_,rfl,_,_,_,_,_,[],hW',(trodAll_cons_mk (shut_bool Try.underlying4 _) trodAll_mk0),(trodAll_cons_mk (Below.trod laidOut (by kernel_rfl) (of_decide_eq_true (by kernel_rfl)) h0k hg hlt0) (trodAll_cons_mk (Go.ChangeMaps.shut_string Try.underlying9 w1) trodAll_mk0)),rfl,hg.frame _,fun h => by cases h⟩
theorem over:Rows.pkcs8BackRow.holds Try.pinned (OpenSpec.ofChange Rows.pkcs8BackSpec) :=
 OpenClaim.holds_of_wide 3 Try.f3 rfl rfl rfl rfl rfl rfl rfl ⟨rfl,rfl,rfl,rfl,rfl⟩ rfl rfl rfl rfl rfl (by kernel_rfl) Try.func3 (by kernel_rfl)
   (of_decide_eq_true (by kernel_rfl)) (by unfold Func.isWrapper; first | (rw [if_pos (by decide +kernel)]; kernel_rfl) | (rw [if_neg (by decide +kernel)]; exact ⟨rfl,rfl⟩))
   (fun os started H enc _ => lifted os started H enc)
theorem proved:Rows.Pkcs8BackSaid :=
 over
end Go.Proofs.Ytpanhhjkecebkaa.pkcs8Back
