import Derived.Test.YtcdjfmlanicjlaaDoorSk39
import Derived.RangeFuncBox
import Derived.Test.YtcdjfmlanicjlaaDoorSk36
import Derived.Test.YtcdjfmlanicjlaaDoorSk34
set_option maxRecDepth 100000
namespace Go.Proofs.YtcdjfmlanicjlaaDoor
open Go.RowKit
namespace Kind
open Curve (KMkI KS KI)
def KBy (b b1 b2:Nat) (s:ByteArray) (cu si:Int):World -> Prop:=fun w => Tabs w /\ KS b s w /\ KI b1 cu w /\ KI b2 si w
instance (b b1 b2:Nat) (s:ByteArray) (cu si:Int):Kp (KBy b b1 b2 s cu si):=⟨fun h hb => ⟨Kp.keep h.1 hb,Kp.keep h.2.1 hb,Kp.keep h.2.2.1 hb,Kp.keep h.2.2.2 hb⟩⟩
def KOf (b b1:Nat) (s:ByteArray) (si:Int):World -> Prop:=fun w => Tabs w /\ KS b s w /\ KI b1 si w
instance (b b1:Nat) (s:ByteArray) (si:Int):Kp (KOf b b1 s si):=⟨fun h hb => ⟨Kp.keep h.1 hb,Kp.keep h.2.1 hb,Kp.keep h.2.2 hb⟩⟩
end Kind
namespace Kind
open Curve (KMkI KAll)
end Kind
namespace Kind
open Curve (KMkI KAll)
def Tab2:World -> Prop:=fun w => Tabs w /\ Curve.Tabs w
instance:Kp Tab2:=⟨fun h hb => ⟨Kp.keep h.1 hb,Kp.keep h.2 hb⟩⟩
theorem KMk.t2 {f:Nat} {args:Array Value} {v:Value} (h:KMk Tabs f args v):KMk Tab2 f args v:=h.weak (fun _ h => h.1)
def chkE (r:Row) (s:List UInt8):Int:=if r.2.1 = 0 then 8 else if (s.length:Int) ≠ r.2.1 then 9 else if r.2.2.2.1 ≠ 0 /\ Curve.scB (Curve.rowOf r.2.2.2.1) s = false then 10 else 0
theorem chk_0 (no:Int) (s:ByteArray) (x y z:ByteArray) (n c:Int) (hn:(n == 0) = true) (c1:KMk Tab2 58 #[.int .i64 no] (.agg #[.string x,.int .i64 n,.string y,.int .i64 c,.string z])):KMk Tab2 59 #[.int .i64 no,.string s] (.int .i64 8):=by
 intro w hT
 go_enter Tryd.func59,Tryd.ntmps59
 go_wp2_with fail
 refine c1.calls0 hT ?_
 intro w1 h1
 have HSB:=lH (Since.alloc h1 (.cells #[.string x,.int .i64 n,.string y,.int .i64 c,.string z] 96))
 clear hT h1
 go_wp2_with fail
 go_ret
 exact ⟨rfl,HSB.out⟩
theorem chk_l (no:Int) (s:ByteArray) (x y z:ByteArray) (n c:Int) (hn:(n == 0) = false) (hl:((s.size:Int) != n) = true) (c1:KMk Tab2 58 #[.int .i64 no] (.agg #[.string x,.int .i64 n,.string y,.int .i64 c,.string z])):KMk Tab2 59 #[.int .i64 no,.string s] (.int .i64 9):=by
 intro w hT
 go_enter Tryd.func59,Tryd.ntmps59
 go_wp2_with fail
 refine c1.calls0 hT ?_
 intro w1 h1
 have HSB:=lH (Since.alloc h1 (.cells #[.string x,.int .i64 n,.string y,.int .i64 c,.string z] 96))
 clear hT h1
 go_wp2_with fail
 go_ret
 exact ⟨rfl,HSB.out⟩
theorem chk_n (no:Int) (s:ByteArray) (x y z:ByteArray) (n c:Int) (hn:(n == 0) = false) (hl:((s.size:Int) != n) = false) (hc:(c != 0) = false) (c1:KMk Tab2 58 #[.int .i64 no] (.agg #[.string x,.int .i64 n,.string y,.int .i64 c,.string z])):KMk Tab2 59 #[.int .i64 no,.string s] (.int .i64 0):=by
 intro w hT
 go_enter Tryd.func59,Tryd.ntmps59
 go_wp2_with fail
 refine c1.calls0 hT ?_
 intro w1 h1
 have HSB:=lH (Since.alloc h1 (.cells #[.string x,.int .i64 n,.string y,.int .i64 c,.string z] 96))
 clear hT h1
 go_wp2_with fail
 go_ret
 exact ⟨rfl,HSB.out⟩
theorem chk_f (no:Int) (s:ByteArray) (x y z:ByteArray) (n c:Int) (hn:(n == 0) = false) (hl:((s.size:Int) != n) = false) (hc:(c != 0) = true) (c1:KMk Tab2 58 #[.int .i64 no] (.agg #[.string x,.int .i64 n,.string y,.int .i64 c,.string z])) (c2:KMk Tab2 66 #[.int .i64 c,.string s] (.bool false)):KMk Tab2 59 #[.int .i64 no,.string s] (.int .i64 10):=by
 intro w hT
 go_enter Tryd.func59,Tryd.ntmps59
 go_wp2_with fail
 refine c1.calls0 hT ?_
 intro w1 h1
 have HSB:=lH (Since.alloc h1 (.cells #[.string x,.int .i64 n,.string y,.int .i64 c,.string z] 96))
 have HTB:=lH (Kp.keep hT HSB.out)
 clear hT h1
 go_wp2_with fail
 refine c2.calls0 HTB.out ?_
 intro w2 h2
 have HSC:=lH (HSB.out.step h2)
 clear h2
 go_wp2_with fail
 go_ret
 exact ⟨rfl,HSC.out⟩
theorem chk_t (no:Int) (s:ByteArray) (x y z:ByteArray) (n c:Int) (hn:(n == 0) = false) (hl:((s.size:Int) != n) = false) (hc:(c != 0) = true) (c1:KMk Tab2 58 #[.int .i64 no] (.agg #[.string x,.int .i64 n,.string y,.int .i64 c,.string z])) (c2:KMk Tab2 66 #[.int .i64 c,.string s] (.bool true)):KMk Tab2 59 #[.int .i64 no,.string s] (.int .i64 0):=by
 intro w hT
 go_enter Tryd.func59,Tryd.ntmps59
 go_wp2_with fail
 refine c1.calls0 hT ?_
 intro w1 h1
 have HSB:=lH (Since.alloc h1 (.cells #[.string x,.int .i64 n,.string y,.int .i64 c,.string z] 96))
 have HTB:=lH (Kp.keep hT HSB.out)
 clear hT h1
 go_wp2_with fail
 refine c2.calls0 HTB.out ?_
 intro w2 h2
 have HSC:=lH (HSB.out.step h2)
 clear h2
 go_wp2_with fail
 go_ret
 exact ⟨rfl,HSC.out⟩
theorem check_k (no:Int) (s:ByteArray) (hm:s.size <= 140737488355328) (E:Int) (hE:E = chkE (rowOf no) s.data.toList):KMk Tab2 59 #[.int .i64 no,.string s] (.int .i64 E):=by
 subst hE
 have c1:=KMk.t2 (by_k no)
 unfold rowV at c1
 unfold chkE
 have hl:s.data.toList.length = s.size:=rfl
 rw [hl]
 by_cases h0:(rowOf no).2.1 = 0
 · rw [if_pos h0]; exact chk_0 no s _ _ _ _ _ (beq_iff_eq.2 h0) c1
 · rw [if_neg h0]
   by_cases h1:(s.size:Int) ≠ (rowOf no).2.1
   · rw [if_pos h1]; exact chk_l no s _ _ _ _ _ (beq_eq_false_iff_ne.2 h0) (bne_iff_ne.2 h1) c1
   · have h1':(s.size:Int) = (rowOf no).2.1:=by omega
     rw [if_neg h1]
     by_cases h2:(rowOf no).2.2.2.1 = 0
     · rw [if_neg (fun h => h.1 h2)]; exact chk_n no s _ _ _ _ _ (beq_eq_false_iff_ne.2 h0) (bne_eq_false_iff_eq.2 h1') (bne_eq_false_iff_eq.2 h2) c1
     · have c2:KMk Tab2 66 #[.int .i64 (rowOf no).2.2.2.1,.string s] (.bool (Curve.scB (Curve.rowOf (rowOf no).2.2.2.1) s.data.toList)):=(Curve.scalar_k _ s hm _ rfl).weak (fun _ h => h.2)
       cases hq:Curve.scB (Curve.rowOf (rowOf no).2.2.2.1) s.data.toList with
       | false =>
         rw [hq] at c2
         rw [if_pos ⟨h2,rfl⟩]; exact chk_f no s _ _ _ _ _ (beq_eq_false_iff_ne.2 h0) (bne_eq_false_iff_eq.2 h1') (bne_iff_ne.2 h2) c1 c2
       | true =>
         rw [hq] at c2
         rw [if_neg (fun h => by cases h.2)]; exact chk_t no s _ _ _ _ _ (beq_eq_false_iff_ne.2 h0) (bne_eq_false_iff_eq.2 h1') (bne_iff_ne.2 h2) c1 c2
theorem tabs4_of {W : World} (h : laidMetH Tryd.prog [("unicode/utf8.acceptRanges", Rows.laid_unicode_utf8_acceptRanges), ("claviger/curve.lines", Rows.laid_claviger_curve_lines), ("claviger/kind.lines", Rows.laid_claviger_kind_lines), ("unicode/utf8.first", Rows.laid_unicode_utf8_first)] W) : Tab2 W := by
 rw [MakeChecks.laidMetH_plain _ _ _ (by kernel_rfl)] at h
 obtain ⟨ps,⟨_,_,_,_,_,_,_,_,_,_,⟨g0,t0,cs0,f0,p0,q0,hg0,ht0,hv0,hd0,⟨g1,t1,cs1,f1,p1,q1,hg1,ht1,hv1,hd1,_,_⟩,_⟩,_⟩,_,_⟩:=h
 exact ⟨tabs_at hg1 ht1 hv1 hd1,Curve.tabs_at hg0 ht0 hv0 hd0⟩
end Kind
namespace Rec
open Att Kind
def RdR (f:Nat) (L:List A2) (args:Value -> Array Value) (v:Value):Prop:=∀ w x,Tab2 w -> AttsS w x L -> Calls Tryd.prog f (args x) w fun e w' => e = .returned v /\ Below w.heap.size w w'
theorem RdR.calls0 {f:Nat} {L:List A2} {args:Value -> Array Value} {v x:Value} (h:RdR f L args v) {w:World} (hT:Tab2 w) (hx:AttsS w x L) {R:Ending -> World -> Prop} (k:∀ w',Since w w' -> R (.returned v) w'):Calls Tryd.prog f (args x) w R :=
 (h w x hT hx).mono fun _ _ ⟨he,hb⟩ => by subst he; exact k _ hb
abbrev rv (K:Int) (k u m v e:ByteArray) (x:Value):Value:=.agg #[.int .i64 K,.string k,x,.string u,.string m,.string v,.string e]
def recE (K:Int) (k:ByteArray) (L:List A2):Int:=if chkE (rowOf K) k.data.toList ≠ 0 then chkE (rowOf K) k.data.toList else attE L
theorem chk_bad (K:Int) (k u m v e:ByteArray) (L:List A2) (E:Int) (hE:(E != 0) = true) (c1:KMk Tab2 59 #[.int .i64 K,.string k] (.int .i64 E)):RdR 47 L (fun x => #[rv K k u m v e x]) (.int .i64 E):=by
 intro w x hT hx
 obtain ⟨A,q,rfl,hq1,hq2⟩:=hx.slice
 have hp:=lH (hb_new w Tab2 hT #[.int .i64 K,.string k,.slice A L.length q,.string u,.string m,.string v,.string e] 50)
 have HX:=lH (hx.since hp.out.since)
 have HS:=lH hp.out.since
 obtain ⟨_,m0,m1,m2,m3,m4,m5,m6⟩:=hb7 hp
 clear hx hT
 go_enter Tryd.func47,Tryd.ntmps47
 go_wp2_with fail
 clear m0 m1 m2 m3 m4 m5 m6
 refine (c1.calls0 hp.out.tabs) ?_
 intro w1 h1
 replace HS:=lH (HS.out.step (Up.up h1))
 clear h1
 go_wp2_with fail
 go_ret
 exact ⟨rfl,HS.out⟩
theorem chk_ok (K:Int) (k u m v e:ByteArray) (L:List A2) (E:Int) (c1:KMk Tab2 59 #[.int .i64 K,.string k] (.int .i64 0)) (c2:RdA 60 L (fun x => #[x]) (.int .i64 E)):RdR 47 L (fun x => #[rv K k u m v e x]) (.int .i64 E):=by
 intro w x hT hx
 obtain ⟨A,q,rfl,hq1,hq2⟩:=hx.slice
 have hp:=lH (hb_new w Tab2 hT #[.int .i64 K,.string k,.slice A L.length q,.string u,.string m,.string v,.string e] 50)
 have HX:=lH (hx.since hp.out.since)
 have HS:=lH hp.out.since
 obtain ⟨_,m0,m1,m2,m3,m4,m5,m6⟩:=hb7 hp
 clear hx hT
 go_enter Tryd.func47,Tryd.ntmps47
 go_wp2_with fail
 clear m0 m1 m2 m3 m4 m5 m6
 refine (c1.calls0 hp.out.tabs) ?_
 intro w1 h1
 replace hp:=lH (hp.out.step (Up.up h1))
 replace HX:=lH (HX.out.since (Up.up h1))
 replace HS:=lH (HS.out.step (Up.up h1))
 clear h1
 obtain ⟨_,m0,m1,m2,m3,m4,m5,m6⟩:=hb7 hp
 go_wp2_with fail
 clear m0 m1 m2 m3 m4 m5 m6
 refine (c2.calls0 HX.out) ?_
 intro w2 h2
 replace HS:=lH (HS.out.step (Up.up h2))
 clear h2
 go_wp2_with fail
 go_ret
 exact ⟨rfl,HS.out⟩
theorem check_rec (K:Int) (k u m v e:ByteArray) (L:List A2) (hk:k.size <= 100000) (E:Int) (hE:E = recE K k L):RdR 47 L (fun x => #[rv K k u m v e x]) (.int .i64 E):=by
 subst hE
 have c1:=check_k K k (by omega) _ rfl
 unfold recE
 by_cases h:chkE (rowOf K) k.data.toList = 0
 · rw [if_neg (by omega)]
   rw [h] at c1
   exact chk_ok K k u m v e L _ c1 (check_rd L _ rfl)
 · rw [if_pos h]
   exact chk_bad K k u m v e L _ (by rw [bne_iff_ne]; exact h) c1
end Rec
end Go.Proofs.YtcdjfmlanicjlaaDoor
