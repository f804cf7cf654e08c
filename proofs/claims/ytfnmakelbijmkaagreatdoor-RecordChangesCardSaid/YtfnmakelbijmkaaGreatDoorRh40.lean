import Derived.Test.YtfnmakelbijmkaaGreatDoorRh39
import Derived.RangeFuncBox
import Derived.Test.YtfnmakelbijmkaaGreatDoorRh36
import Derived.Test.YtfnmakelbijmkaaGreatDoorRh34
set_option maxRecDepth 100000
namespace Go.Proofs.YtfnmakelbijmkaaGreatDoor
open Go.RowKit
namespace Kind
open Curve (KMkI KS KI)
def KBy (b b1 b2:Nat) (s:ByteArray) (cu si:Int):World -> Prop:=fun w => Tabs w /\ KS b s w /\ KI b1 cu w /\ KI b2 si w
instance (b b1 b2:Nat) (s:ByteArray) (cu si:Int):Kp (KBy b b1 b2 s cu si):=⟨fun h hb => ⟨Kp.keep h.1 hb,Kp.keep h.2.1 hb,Kp.keep h.2.2.1 hb,Kp.keep h.2.2.2 hb⟩⟩
def KOf (b b1:Nat) (s:ByteArray) (si:Int):World -> Prop:=fun w => Tabs w /\ KS b s w /\ KI b1 si w
instance (b b1:Nat) (s:ByteArray) (si:Int):Kp (KOf b b1 s si):=⟨fun h hb => ⟨Kp.keep h.1 hb,Kp.keep h.2.1 hb,Kp.keep h.2.2 hb⟩⟩
end Kind
namespace Kind
open Curve (KMkI KAll)
theorem rc_1:Ret 68 #[.int .i64 1] (.int .i64 0):=by
 intro w
 go_enter Tryz.func68,Tryz.ntmps68
 go_wp2_with fail
 go_ret
 exact ⟨rfl,rfl⟩
theorem rc_2:Ret 68 #[.int .i64 2] (.int .i64 0):=by
 intro w
 go_enter Tryz.func68,Tryz.ntmps68
 go_wp2_with fail
 go_ret
 exact ⟨rfl,rfl⟩
theorem rc_3:Ret 68 #[.int .i64 3] (.int .i64 0):=by
 intro w
 go_enter Tryz.func68,Tryz.ntmps68
 go_wp2_with fail
 go_ret
 exact ⟨rfl,rfl⟩
theorem rc_4:Ret 68 #[.int .i64 4] (.int .i64 0):=by
 intro w
 go_enter Tryz.func68,Tryz.ntmps68
 go_wp2_with fail
 go_ret
 exact ⟨rfl,rfl⟩
theorem rc_5:Ret 68 #[.int .i64 5] (.int .i64 0):=by
 intro w
 go_enter Tryz.func68,Tryz.ntmps68
 go_wp2_with fail
 go_ret
 exact ⟨rfl,rfl⟩
theorem rc_6:Ret 68 #[.int .i64 6] (.int .i64 0):=by
 intro w
 go_enter Tryz.func68,Tryz.ntmps68
 go_wp2_with fail
 go_ret
 exact ⟨rfl,rfl⟩
theorem rc_7:Ret 68 #[.int .i64 7] (.int .i64 0):=by
 intro w
 go_enter Tryz.func68,Tryz.ntmps68
 go_wp2_with fail
 go_ret
 exact ⟨rfl,rfl⟩
theorem rc_8:Ret 68 #[.int .i64 8] (.int .i64 1):=by
 intro w
 go_enter Tryz.func68,Tryz.ntmps68
 go_wp2_with fail
 go_ret
 exact ⟨rfl,rfl⟩
theorem rc_9:Ret 68 #[.int .i64 9] (.int .i64 2):=by
 intro w
 go_enter Tryz.func68,Tryz.ntmps68
 go_wp2_with fail
 go_ret
 exact ⟨rfl,rfl⟩
theorem rc_10:Ret 68 #[.int .i64 10] (.int .i64 3):=by
 intro w
 go_enter Tryz.func68,Tryz.ntmps68
 go_wp2_with fail
 go_ret
 exact ⟨rfl,rfl⟩
theorem rc_11:Ret 68 #[.int .i64 11] (.int .i64 4):=by
 intro w
 go_enter Tryz.func68,Tryz.ntmps68
 go_wp2_with fail
 go_ret
 exact ⟨rfl,rfl⟩
theorem rc_no (k:Int) (h:k < 1 ∨ 11 < k):Ret 68 #[.int .i64 k] (.int .i64 0):=by
 intro w
 by_cases h1:8 <= k
 · have h2:¬ k <= 11:=by omega
   clear h
   go_enter Tryz.func68,Tryz.ntmps68
   go_wp2_with fail
   go_ret
   exact ⟨rfl,rfl⟩
 · clear h
   go_enter Tryz.func68,Tryz.ntmps68
   go_wp2_with fail
   go_ret
   exact ⟨rfl,rfl⟩
theorem rsize_ret (no:Int) (X:Int) (hX:X = (rowOf no).2.1):Ret 67 #[.int .i64 no] (.int .i64 X):=by
 subst hX
 rcases row_cases no with h | rfl | rfl | rfl | rfl | rfl | rfl | rfl | rfl | rfl | rfl | rfl
 · rw [rowOf_out no h]; exact rsize_no no h
 · exact rsize_1
 · exact rsize_2
 · exact rsize_3
 · exact rsize_4
 · exact rsize_5
 · exact rsize_6
 · exact rsize_7
 · exact rsize_8
 · exact rsize_9
 · exact rsize_10
 · exact rsize_11
theorem rcurve_ret (no:Int) (X:Int) (hX:X = (rowOf no).2.2.2.1):Ret 68 #[.int .i64 no] (.int .i64 X):=by
 subst hX
 rcases row_cases no with h | rfl | rfl | rfl | rfl | rfl | rfl | rfl | rfl | rfl | rfl | rfl
 · rw [rowOf_out no h]; exact rc_no no h
 · exact rc_1
 · exact rc_2
 · exact rc_3
 · exact rc_4
 · exact rc_5
 · exact rc_6
 · exact rc_7
 · exact rc_8
 · exact rc_9
 · exact rc_10
 · exact rc_11
end Kind
namespace Kind
open Curve (KMkI KAll)
def Tab2:World -> Prop:=fun w => Tabs w /\ Curve.Tabs w
instance:Kp Tab2:=⟨fun h hb => ⟨Kp.keep h.1 hb,Kp.keep h.2 hb⟩⟩
theorem Tab2.since {w w':World} (h:Tab2 w) (hs:Since w w'):Tab2 w':=Kp.keep h hs
theorem KMk.t2 {f:Nat} {args:Array Value} {v:Value} (h:KMk Tabs f args v):KMk Tab2 f args v:=h.weak (fun _ h => h.1)
def chkE (r:Row) (s:List UInt8):Int:=if r.2.1 = 0 then 8 else if (s.length:Int) ≠ r.2.1 then 9 else if r.2.2.2.1 ≠ 0 /\ Curve.scB (Curve.rowOf r.2.2.2.1) s = false then 10 else 0
theorem chk_0 (no:Int) (s:ByteArray) (x y z:ByteArray) (n c:Int) (hn:(n == 0) = true) (c1:KMk Tab2 61 #[.int .i64 no] (.agg #[.string x,.int .i64 n,.string y,.int .i64 c,.string z])):KMk Tab2 37 #[.int .i64 no,.string s] (.int .i64 8):=by
 intro w hT
 go_enter Tryz.func37,Tryz.ntmps37
 go_wp2_with fail
 refine c1.calls0 hT ?_
 intro w1 h1
 have HSB:=lH (Since.alloc h1 (.cells #[.string x,.int .i64 n,.string y,.int .i64 c,.string z] 83))
 clear hT h1
 go_wp2_with fail
 go_ret
 exact ⟨rfl,HSB.out⟩
theorem chk_l (no:Int) (s:ByteArray) (x y z:ByteArray) (n c:Int) (hn:(n == 0) = false) (hl:((s.size:Int) != n) = true) (c1:KMk Tab2 61 #[.int .i64 no] (.agg #[.string x,.int .i64 n,.string y,.int .i64 c,.string z])):KMk Tab2 37 #[.int .i64 no,.string s] (.int .i64 9):=by
 intro w hT
 go_enter Tryz.func37,Tryz.ntmps37
 go_wp2_with fail
 refine c1.calls0 hT ?_
 intro w1 h1
 have HSB:=lH (Since.alloc h1 (.cells #[.string x,.int .i64 n,.string y,.int .i64 c,.string z] 83))
 clear hT h1
 go_wp2_with fail
 go_ret
 exact ⟨rfl,HSB.out⟩
theorem chk_n (no:Int) (s:ByteArray) (x y z:ByteArray) (n c:Int) (hn:(n == 0) = false) (hl:((s.size:Int) != n) = false) (hc:(c != 0) = false) (c1:KMk Tab2 61 #[.int .i64 no] (.agg #[.string x,.int .i64 n,.string y,.int .i64 c,.string z])):KMk Tab2 37 #[.int .i64 no,.string s] (.int .i64 0):=by
 intro w hT
 go_enter Tryz.func37,Tryz.ntmps37
 go_wp2_with fail
 refine c1.calls0 hT ?_
 intro w1 h1
 have HSB:=lH (Since.alloc h1 (.cells #[.string x,.int .i64 n,.string y,.int .i64 c,.string z] 83))
 clear hT h1
 go_wp2_with fail
 go_ret
 exact ⟨rfl,HSB.out⟩
theorem chk_f (no:Int) (s:ByteArray) (x y z:ByteArray) (n c:Int) (hn:(n == 0) = false) (hl:((s.size:Int) != n) = false) (hc:(c != 0) = true) (c1:KMk Tab2 61 #[.int .i64 no] (.agg #[.string x,.int .i64 n,.string y,.int .i64 c,.string z])) (c2:KMk Tab2 62 #[.int .i64 c,.string s] (.bool false)):KMk Tab2 37 #[.int .i64 no,.string s] (.int .i64 10):=by
 intro w hT
 go_enter Tryz.func37,Tryz.ntmps37
 go_wp2_with fail
 refine c1.calls0 hT ?_
 intro w1 h1
 have HSB:=lH (Since.alloc h1 (.cells #[.string x,.int .i64 n,.string y,.int .i64 c,.string z] 83))
 have HTB:=lH (Kp.keep hT HSB.out)
 clear hT h1
 go_wp2_with fail
 refine c2.calls0 HTB.out ?_
 intro w2 h2
 have HSC:=lH (HSB.out.step h2)
 clear h2
 go_wp2_with fail
 go_ret
 exact ⟨rfl,HSC.out⟩
theorem chk_t (no:Int) (s:ByteArray) (x y z:ByteArray) (n c:Int) (hn:(n == 0) = false) (hl:((s.size:Int) != n) = false) (hc:(c != 0) = true) (c1:KMk Tab2 61 #[.int .i64 no] (.agg #[.string x,.int .i64 n,.string y,.int .i64 c,.string z])) (c2:KMk Tab2 62 #[.int .i64 c,.string s] (.bool true)):KMk Tab2 37 #[.int .i64 no,.string s] (.int .i64 0):=by
 intro w hT
 go_enter Tryz.func37,Tryz.ntmps37
 go_wp2_with fail
 refine c1.calls0 hT ?_
 intro w1 h1
 have HSB:=lH (Since.alloc h1 (.cells #[.string x,.int .i64 n,.string y,.int .i64 c,.string z] 83))
 have HTB:=lH (Kp.keep hT HSB.out)
 clear hT h1
 go_wp2_with fail
 refine c2.calls0 HTB.out ?_
 intro w2 h2
 have HSC:=lH (HSB.out.step h2)
 clear h2
 go_wp2_with fail
 go_ret
 exact ⟨rfl,HSC.out⟩
theorem check_k (no:Int) (s:ByteArray) (hm:s.size <= 140737488355328) (E:Int) (hE:E = chkE (rowOf no) s.data.toList):KMk Tab2 37 #[.int .i64 no,.string s] (.int .i64 E):=by
 subst hE
 have c1:=KMk.t2 (by_k no)
 unfold rowV at c1
 unfold chkE
 have hl:s.data.toList.length = s.size:=rfl
 rw [hl]
 by_cases h0:(rowOf no).2.1 = 0
 · rw [if_pos h0]; exact chk_0 no s _ _ _ _ _ (beq_iff_eq.2 h0) c1
 · rw [if_neg h0]
   by_cases h1:(s.size:Int) ≠ (rowOf no).2.1
   · rw [if_pos h1]; exact chk_l no s _ _ _ _ _ (beq_eq_false_iff_ne.2 h0) (bne_iff_ne.2 h1) c1
   · have h1':(s.size:Int) = (rowOf no).2.1:=by omega
     rw [if_neg h1]
     by_cases h2:(rowOf no).2.2.2.1 = 0
     · rw [if_neg (fun h => h.1 h2)]; exact chk_n no s _ _ _ _ _ (beq_eq_false_iff_ne.2 h0) (bne_eq_false_iff_eq.2 h1') (bne_eq_false_iff_eq.2 h2) c1
     · have c2:KMk Tab2 62 #[.int .i64 (rowOf no).2.2.2.1,.string s] (.bool (Curve.scB (Curve.rowOf (rowOf no).2.2.2.1) s.data.toList)):=(Curve.scalar_k _ s hm _ rfl).weak (fun _ h => h.2)
       cases hq:Curve.scB (Curve.rowOf (rowOf no).2.2.2.1) s.data.toList with
       | false =>
         rw [hq] at c2
         rw [if_pos ⟨h2,rfl⟩]; exact chk_f no s _ _ _ _ _ (beq_eq_false_iff_ne.2 h0) (bne_eq_false_iff_eq.2 h1') (bne_iff_ne.2 h2) c1 c2
       | true =>
         rw [hq] at c2
         rw [if_neg (fun h => by cases h.2)]; exact chk_t no s _ _ _ _ _ (beq_eq_false_iff_ne.2 h0) (bne_eq_false_iff_eq.2 h1') (bne_iff_ne.2 h2) c1 c2
theorem rchk_0 (no:Int) (s:ByteArray) (n _c:Int) (hn:(n == 0) = true) (c1:Ret 67 #[.int .i64 no] (.int .i64 n)):Mak 50 #[.int .i64 no,.string s] (.int .i64 8):=by
 intro w
 have HS:=lH (Since.refl w)
 go_enter Tryz.func50,Tryz.ntmps50
 go_wp2_with fail
 repeat (with_reducible refine c1.calls ?_; try go_wp2_with fail)
 go_ret
 exact ⟨rfl,HS.out⟩
theorem rchk_l (no:Int) (s:ByteArray) (n _c:Int) (hn:(n == 0) = false) (hl:((s.size:Int) != n) = true) (c1:Ret 67 #[.int .i64 no] (.int .i64 n)):Mak 50 #[.int .i64 no,.string s] (.int .i64 9):=by
 intro w
 have HS:=lH (Since.refl w)
 go_enter Tryz.func50,Tryz.ntmps50
 go_wp2_with fail
 repeat (with_reducible refine c1.calls ?_; try go_wp2_with fail)
 go_ret
 exact ⟨rfl,HS.out⟩
theorem rchk_n (no:Int) (s:ByteArray) (n c:Int) (hn:(n == 0) = false) (hl:((s.size:Int) != n) = false) (hc:decide (0 < c) = false) (c1:Ret 67 #[.int .i64 no] (.int .i64 n)) (c2:Ret 68 #[.int .i64 no] (.int .i64 c)):Mak 50 #[.int .i64 no,.string s] (.int .i64 0):=by
 intro w
 have HS:=lH (Since.refl w)
 go_enter Tryz.func50,Tryz.ntmps50
 go_wp2_with fail
 repeat ((first | with_reducible refine c1.calls ?_ | with_reducible refine c2.calls ?_); try go_wp2_with fail)
 go_ret
 exact ⟨rfl,HS.out⟩
theorem rchk_f (no:Int) (s:ByteArray) (n c:Int) (hn:(n == 0) = false) (hl:((s.size:Int) != n) = false) (hc:decide (0 < c) = true) (c1:Ret 67 #[.int .i64 no] (.int .i64 n)) (c2:Ret 68 #[.int .i64 no] (.int .i64 c)) (c3:Mak 69 #[.int .i64 c,.string s] (.bool false)):Mak 50 #[.int .i64 no,.string s] (.int .i64 10):=by
 intro w
 have HS:=lH (Since.refl w)
 go_enter Tryz.func50,Tryz.ntmps50
 go_wp2_with fail
 repeat (first | ((first | with_reducible refine c1.calls ?_ | with_reducible refine c2.calls ?_); try go_wp2_with fail) | (with_reducible refine c3.calls HS.out ?_; intro wz hz; replace HS:=lH hz; clear hz; try go_wp2_with fail))
 go_ret
 exact ⟨rfl,HS.out⟩
theorem rchk_t (no:Int) (s:ByteArray) (n c:Int) (hn:(n == 0) = false) (hl:((s.size:Int) != n) = false) (hc:decide (0 < c) = true) (c1:Ret 67 #[.int .i64 no] (.int .i64 n)) (c2:Ret 68 #[.int .i64 no] (.int .i64 c)) (c3:Mak 69 #[.int .i64 c,.string s] (.bool true)):Mak 50 #[.int .i64 no,.string s] (.int .i64 0):=by
 intro w
 have HS:=lH (Since.refl w)
 go_enter Tryz.func50,Tryz.ntmps50
 go_wp2_with fail
 repeat (first | ((first | with_reducible refine c1.calls ?_ | with_reducible refine c2.calls ?_); try go_wp2_with fail) | (with_reducible refine c3.calls HS.out ?_; intro wz hz; replace HS:=lH hz; clear hz; try go_wp2_with fail))
 go_ret
 exact ⟨rfl,HS.out⟩
theorem row_curve (no:Int):0 <= (rowOf no).2.2.2.1:=by
 unfold rowOf
 split
 · rename_i h
   have hall:∀ r ∈ rows,0 <= r.2.2.2.1:=by decide +kernel
   cases hr:rows[(no - 1).toNat]? with
   | none => exact Int.le_refl 0
   | some r => exact hall r (List.mem_of_getElem? hr)
 · exact Int.le_refl 0
theorem rcheck_mak (no:Int) (s:ByteArray) (hm:s.size <= 140737488355328) (E:Int) (hE:E = chkE (rowOf no) s.data.toList):Mak 50 #[.int .i64 no,.string s] (.int .i64 E):=by
 subst hE
 have c1:=rsize_ret no _ rfl
 have c2:=rcurve_ret no _ rfl
 have hcv:=row_curve no
 unfold chkE
 have hl:s.data.toList.length = s.size:=rfl
 rw [hl]
 by_cases h0:(rowOf no).2.1 = 0
 · rw [if_pos h0]; exact rchk_0 no s _ 0 (beq_iff_eq.2 h0) c1
 · rw [if_neg h0]
   by_cases h1:(s.size:Int) ≠ (rowOf no).2.1
   · rw [if_pos h1]; exact rchk_l no s _ 0 (beq_eq_false_iff_ne.2 h0) (bne_iff_ne.2 h1) c1
   · have h1':(s.size:Int) = (rowOf no).2.1:=by omega
     rw [if_neg h1]
     by_cases h2:(rowOf no).2.2.2.1 = 0
     · rw [if_neg (fun h => h.1 h2)]; exact rchk_n no s _ _ (beq_eq_false_iff_ne.2 h0) (bne_eq_false_iff_eq.2 h1') (decide_eq_false (by omega)) c1 c2
     · have c3:=Curve.rscalar_mak (rowOf no).2.2.2.1 s hm _ rfl
       cases hq:Curve.scB (Curve.rowOf (rowOf no).2.2.2.1) s.data.toList with
       | false =>
         rw [hq] at c3
         rw [if_pos ⟨h2,rfl⟩]; exact rchk_f no s _ _ (beq_eq_false_iff_ne.2 h0) (bne_eq_false_iff_eq.2 h1') (decide_eq_true (by omega)) c1 c2 c3
       | true =>
         rw [hq] at c3
         rw [if_neg (fun h => by cases h.2)]; exact rchk_t no s _ _ (beq_eq_false_iff_ne.2 h0) (bne_eq_false_iff_eq.2 h1') (decide_eq_true (by omega)) c1 c2 c3
theorem tabs4_of {W : World} (h : laidMetH Tryz.prog [("unicode/utf8.acceptRanges", Rows.laid_unicode_utf8_acceptRanges), ("claviger/curve.lines", Rows.laid_claviger_curve_lines), ("claviger/kind.lines", Rows.laid_claviger_kind_lines), ("unicode/utf8.first", Rows.laid_unicode_utf8_first)] W) : Tab2 W := by
 rw [MakeChecks.laidMetH_plain _ _ _ (by kernel_rfl)] at h
 obtain ⟨ps,⟨_,_,_,_,_,_,_,_,_,_,⟨g0,t0,cs0,f0,p0,q0,hg0,ht0,hv0,hd0,⟨g1,t1,cs1,f1,p1,q1,hg1,ht1,hv1,hd1,_,_⟩,_⟩,_⟩,_,_⟩:=h
 exact ⟨tabs_at hg1 ht1 hv1 hd1,Curve.tabs_at hg0 ht0 hv0 hd0⟩
end Kind
namespace Rec
open Att Kind
def RdR (f:Nat) (L:List A2) (args:Value -> Array Value) (v:Value):Prop:=∀ w x,Tab2 w -> AttsS w x L -> Calls Tryz.prog f (args x) w fun e w' => e = .returned v /\ Below w.heap.size w w'
theorem RdR.calls0 {f:Nat} {L:List A2} {args:Value -> Array Value} {v x:Value} (h:RdR f L args v) {w:World} (hT:Tab2 w) (hx:AttsS w x L) {R:Ending -> World -> Prop} (k:∀ w',Since w w' -> R (.returned v) w'):Calls Tryz.prog f (args x) w R :=
 (h w x hT hx).mono fun _ _ ⟨he,hb⟩ => by subst he; exact k _ hb
abbrev rv (K:Int) (k u m v e:ByteArray) (x:Value):Value:=.agg #[.int .i64 K,.string k,x,.string u,.string m,.string v,.string e]
def recE (K:Int) (k:ByteArray) (L:List A2):Int:=if chkE (rowOf K) k.data.toList ≠ 0 then chkE (rowOf K) k.data.toList else attE L
theorem chk_bad (K:Int) (k u m v e:ByteArray) (L:List A2) (E:Int) (hE:(E != 0) = true) (c1:KMk Tab2 37 #[.int .i64 K,.string k] (.int .i64 E)):RdR 17 L (fun x => #[rv K k u m v e x]) (.int .i64 E):=by
 intro w x hT hx
 obtain ⟨A,q,rfl,hq1,hq2⟩:=hx.slice
 have hp:=lH (hb_new w Tab2 hT #[.int .i64 K,.string k,.slice A L.length q,.string u,.string m,.string v,.string e] 26)
 have HX:=lH (hx.since hp.out.since)
 have HS:=lH hp.out.since
 obtain ⟨_,m0,m1,m2,m3,m4,m5,m6⟩:=hb7 hp
 clear hx hT
 go_enter Tryz.func17,Tryz.ntmps17
 go_wp2_with fail
 clear m0 m1 m2 m3 m4 m5 m6
 refine (c1.calls0 hp.out.tabs) ?_
 intro w1 h1
 replace HS:=lH (HS.out.step (Up.up h1))
 clear h1
 go_wp2_with fail
 go_ret
 exact ⟨rfl,HS.out⟩
theorem chk_ok (K:Int) (k u m v e:ByteArray) (L:List A2) (E:Int) (c1:KMk Tab2 37 #[.int .i64 K,.string k] (.int .i64 0)) (c2:RdA 38 L (fun x => #[x]) (.int .i64 E)):RdR 17 L (fun x => #[rv K k u m v e x]) (.int .i64 E):=by
 intro w x hT hx
 obtain ⟨A,q,rfl,hq1,hq2⟩:=hx.slice
 have hp:=lH (hb_new w Tab2 hT #[.int .i64 K,.string k,.slice A L.length q,.string u,.string m,.string v,.string e] 26)
 have HX:=lH (hx.since hp.out.since)
 have HS:=lH hp.out.since
 obtain ⟨_,m0,m1,m2,m3,m4,m5,m6⟩:=hb7 hp
 clear hx hT
 go_enter Tryz.func17,Tryz.ntmps17
 go_wp2_with fail
 clear m0 m1 m2 m3 m4 m5 m6
 refine (c1.calls0 hp.out.tabs) ?_
 intro w1 h1
 replace hp:=lH (hp.out.step (Up.up h1))
 replace HX:=lH (HX.out.since (Up.up h1))
 replace HS:=lH (HS.out.step (Up.up h1))
 clear h1
 obtain ⟨_,m0,m1,m2,m3,m4,m5,m6⟩:=hb7 hp
 go_wp2_with fail
 clear m0 m1 m2 m3 m4 m5 m6
 refine (c2.calls0 HX.out) ?_
 intro w2 h2
 replace HS:=lH (HS.out.step (Up.up h2))
 clear h2
 go_wp2_with fail
 go_ret
 exact ⟨rfl,HS.out⟩
theorem rchk_bad (K:Int) (k u m v e:ByteArray) (L:List A2) (E:Int) (hE:(E != 0) = true) (c1:Mak 50 #[.int .i64 K,.string k] (.int .i64 E)):RdR 24 L (fun x => #[rv K k u m v e x]) (.int .i64 E):=by
 intro w x hT hx
 obtain ⟨A,q,rfl,hq1,hq2⟩:=hx.slice
 have hp:=lH (hb_new w Tab2 hT #[.int .i64 K,.string k,.slice A L.length q,.string u,.string m,.string v,.string e] 26)
 have HX:=lH (hx.since hp.out.since)
 have HS:=lH hp.out.since
 obtain ⟨_,m0,m1,m2,m3,m4,m5,m6⟩:=hb7 hp
 clear hx hT
 go_enter Tryz.func24,Tryz.ntmps24
 go_wp2_with fail
 clear m0 m1 m2 m3 m4 m5 m6
 refine (c1.calls0) ?_
 intro w1 h1
 replace HS:=lH (HS.out.step (Up.up h1))
 clear h1
 go_wp2_with fail
 go_ret
 exact ⟨rfl,HS.out⟩
theorem rchk_ok (K:Int) (k u m v e:ByteArray) (L:List A2) (E:Int) (c1:Mak 50 #[.int .i64 K,.string k] (.int .i64 0)) (c2:RdA 51 L (fun x => #[x]) (.int .i64 E)):RdR 24 L (fun x => #[rv K k u m v e x]) (.int .i64 E):=by
 intro w x hT hx
 obtain ⟨A,q,rfl,hq1,hq2⟩:=hx.slice
 have hp:=lH (hb_new w Tab2 hT #[.int .i64 K,.string k,.slice A L.length q,.string u,.string m,.string v,.string e] 26)
 have HX:=lH (hx.since hp.out.since)
 have HS:=lH hp.out.since
 obtain ⟨_,m0,m1,m2,m3,m4,m5,m6⟩:=hb7 hp
 clear hx hT
 go_enter Tryz.func24,Tryz.ntmps24
 go_wp2_with fail
 clear m0 m1 m2 m3 m4 m5 m6
 refine (c1.calls0) ?_
 intro w1 h1
 replace hp:=lH (hp.out.step (Up.up h1))
 replace HX:=lH (HX.out.since (Up.up h1))
 replace HS:=lH (HS.out.step (Up.up h1))
 clear h1
 obtain ⟨_,m0,m1,m2,m3,m4,m5,m6⟩:=hb7 hp
 go_wp2_with fail
 clear m0 m1 m2 m3 m4 m5 m6
 refine (c2.calls0 HX.out) ?_
 intro w2 h2
 replace HS:=lH (HS.out.step (Up.up h2))
 clear h2
 go_wp2_with fail
 go_ret
 exact ⟨rfl,HS.out⟩
theorem check_rec (K:Int) (k u m v e:ByteArray) (L:List A2) (hk:k.size <= 100000) (E:Int) (hE:E = recE K k L):RdR 17 L (fun x => #[rv K k u m v e x]) (.int .i64 E):=by
 subst hE
 have c1:=check_k K k (by omega) _ rfl
 unfold recE
 by_cases h:chkE (rowOf K) k.data.toList = 0
 · rw [if_neg (by omega)]
   rw [h] at c1
   exact chk_ok K k u m v e L _ c1 (check_rd L _ rfl)
 · rw [if_pos h]
   exact chk_bad K k u m v e L _ (by rw [bne_iff_ne]; exact h) c1
theorem rcheck_rec (K:Int) (k u m v e:ByteArray) (L:List A2) (hk:k.size <= 100000) (E:Int) (hE:E = recE K k L):RdR 24 L (fun x => #[rv K k u m v e x]) (.int .i64 E):=by
 subst hE
 have c1:=rcheck_mak K k (by omega) _ rfl
 unfold recE
 by_cases h:chkE (rowOf K) k.data.toList = 0
 · rw [if_neg (by omega)]
   rw [h] at c1
   exact rchk_ok K k u m v e L _ c1 (rcheck_rd L _ rfl)
 · rw [if_pos h]
   exact rchk_bad K k u m v e L _ (by rw [bne_iff_ne]; exact h) c1
def plainB (k u m v e:ByteArray) (L:List A2):Bool:=decide (k.size <= 100) && fewB L 40 && Plain.headB u m v e
set_option maxHeartbeats 2000000 in
theorem plain_core (K:Int) (k u m v e:ByteArray) (L:List A2) (q1 q2 q3 Q:Bool) (hQ:Q = (q1 && q2 && q3)) (t1:decide ((k.size:Int) <= 100) = q1) (c1:RdA 14 L (fun x => #[x,.int .i64 40]) (.bool q2))
   (c2:Mak 15 #[.agg #[.string u,.string m,.string v,.string e]] (.bool q3)):RdR 4 L (fun x => #[rv K k u m v e x]) (.bool Q):=by
 subst hQ
 cases q1
 · intro w x hT hx
   obtain ⟨A,q,rfl,hq1,hq2⟩:=hx.slice
   have hp:=lH (hb_new w Tab2 hT #[.int .i64 K,.string k,.slice A L.length q,.string u,.string m,.string v,.string e] 26)
   have HX:=lH (hx.since hp.out.since)
   have HS:=lH hp.out.since
   obtain ⟨_,m0,m1,m2,m3,m4,m5,m6⟩:=hb7 hp
   clear hx hT
   go_enter Tryz.func4,Tryz.ntmps4
   go_wp2_with fail
   clear m0 m1 m2 m3 m4 m5 m6
   go_ret
   exact ⟨rfl,HS.out⟩
 · cases q2
   · intro w x hT hx
     obtain ⟨A,q,rfl,hq1,hq2⟩:=hx.slice
     have hp:=lH (hb_new w Tab2 hT #[.int .i64 K,.string k,.slice A L.length q,.string u,.string m,.string v,.string e] 26)
     have HX:=lH (hx.since hp.out.since)
     have HS:=lH hp.out.since
     obtain ⟨_,m0,m1,m2,m3,m4,m5,m6⟩:=hb7 hp
     clear hx hT
     go_enter Tryz.func4,Tryz.ntmps4
     go_wp2_with fail
     clear m0 m1 m2 m3 m4 m5 m6
     refine (c1.calls0 HX.out) ?_
     intro w1 h1
     replace HS:=lH (HS.out.step (Up.up h1))
     clear h1
     go_wp2_with fail
     go_ret
     exact ⟨rfl,HS.out⟩
   · intro w x hT hx
     obtain ⟨A,q,rfl,hq1,hq2⟩:=hx.slice
     have hp:=lH (hb_new w Tab2 hT #[.int .i64 K,.string k,.slice A L.length q,.string u,.string m,.string v,.string e] 26)
     have HX:=lH (hx.since hp.out.since)
     have HS:=lH hp.out.since
     obtain ⟨_,m0,m1,m2,m3,m4,m5,m6⟩:=hb7 hp
     clear hx hT
     go_enter Tryz.func4,Tryz.ntmps4
     go_wp2_with fail
     clear m0 m1 m2 m3 m4 m5 m6
     refine (c1.calls0 HX.out) ?_
     intro w1 h1
     replace hp:=lH (hp.out.step (Up.up h1))
     replace HX:=lH (HX.out.since (Up.up h1))
     replace HS:=lH (HS.out.step (Up.up h1))
     clear h1
     obtain ⟨_,m0,m1,m2,m3,m4,m5,m6⟩:=hb7 hp
     go_wp2_with fail
     clear m0 m1 m2 m3 m4 m5 m6
     refine (c2.calls0) ?_
     intro w2 h2
     replace HS:=lH (HS.out.step (Up.up h2))
     clear h2
     go_wp2_with fail
     go_ret
     exact ⟨rfl,HS.out⟩
theorem plain_rec (K:Int) (k u m v e:ByteArray) (L:List A2):RdR 4 L (fun x => #[rv K k u m v e x]) (.bool (plainB k u m v e L)):=by
 have t1:decide ((k.size:Int) <= 100) = decide (k.size <= 100):=by norm_cast
 exact plain_core K k u m v e L _ _ _ _ rfl t1 (few_rd L 40 (by decide) _ rfl) (Plain.head_mak u m v e _ rfl)
theorem plain_small {k u m v e:ByteArray} {L:List A2} (h:plainB k u m v e L = true):k.size <= 100 /\ fewB L 40 = true /\ Plain.headB u m v e = true:=by
 unfold plainB at h
 simp only [Bool.and_eq_true,decide_eq_true_eq] at h
 exact ⟨h.1.1,h.1.2,h.2⟩
end Rec
namespace Rcd
open Att Rec
def AlkT (K:Int) (k u m v e:ByteArray) (L:List A2):Prop:=∀ w x y,AttsS w x L -> AttsS w y L -> Calls Tryz.prog 11 #[rv K k u m v e x,rv K k u m v e y] w fun z w' => z = .returned (.bool true) /\ Since w w'
theorem AlkT.calls0 {K:Int} {k u m v e:ByteArray} {L:List A2} (h:AlkT K k u m v e L) {w:World} {x y:Value} (hx:AttsS w x L) (hy:AttsS w y L) {R:Ending -> World -> Prop} (j:∀ w',Since w w' -> R (.returned (.bool true)) w'):Calls Tryz.prog 11 #[rv K k u m v e x,rv K k u m v e y] w R :=
 (h w x y hx hy).mono fun _ _ ⟨he,hb⟩ => by subst he; exact j _ hb
set_option maxHeartbeats 4000000 in
theorem alike_t (K:Int) (k u m v e:ByteArray) (L:List A2):AlkT K k u m v e L:=by
 intro w x y hx hy
 obtain ⟨A,q,rfl,-,-⟩:=hx.slice
 obtain ⟨B,r,rfl,-,-⟩:=hy.slice
 have c1:=attrs_same L
 have t1:(k.toList == k.toList) = true:=beq_self_eq_true _
 have t2:(u.toList == u.toList) = true:=beq_self_eq_true _
 have t3:(m.toList == m.toList) = true:=beq_self_eq_true _
 have t4:(v.toList == v.toList) = true:=beq_self_eq_true _
 have t5:(e.toList == e.toList) = true:=beq_self_eq_true _
 have ha:=lH (hb_new w KT trivial #[.int .i64 K,.string k,.slice A L.length q,.string u,.string m,.string v,.string e] 26)
 have hb:=lH (hb_new (w.alloc (.cells #[.int .i64 K,.string k,.slice A L.length q,.string u,.string m,.string v,.string e] 26)) KT trivial #[.int .i64 K,.string k,.slice B L.length r,.string u,.string m,.string v,.string e] 26)
 replace ha:=lH (ha.out.step ((Below.refl _ (w.alloc (.cells #[.int .i64 K,.string k,.slice A L.length q,.string u,.string m,.string v,.string e] 26))).alloc (Nat.le_refl _) (.cells #[.int .i64 K,.string k,.slice B L.length r,.string u,.string m,.string v,.string e] 26)))
 have HX:=lH (hx.since ha.out.since)
 have HY:=lH (hy.since ha.out.since)
 have HS:=lH ha.out.since
 obtain ⟨_,m0,m1,m2,m3,m4,m5,m6⟩:=hb7 ha
 obtain ⟨_,n0,n1,n2,n3,n4,n5,n6⟩:=hb7 hb
 rw [show (w.alloc (.cells #[.int .i64 K,.string k,.slice A L.length q,.string u,.string m,.string v,.string e] 26)).heap.size = w.heap.size + 1 by simp] at n0 n1 n2 n3 n4 n5 n6
 clear hx hy ha hb
 go_enter Tryz.func11,Tryz.ntmps11
 go_wp2_with fail
 refine c1.calls0 HX.out HY.out ?_
 intro w1 h1
 replace HS:=lH (HS.out.step h1)
 clear h1 m0 m1 m2 m3 m4 m5 m6 n0 n1 n2 n3 n4 n5 n6
 go_wp2_with fail
 go_ret
 exact ⟨rfl,HS.out⟩
end Rcd
end Go.Proofs.YtfnmakelbijmkaaGreatDoor
namespace Go.Proofs.YtfnmakelbijmkaaGreatDoor
open Go.RowKit Go.Deep
namespace Rcd
open Att
theorem eq_lens (l m:List A2) (h:l.length ≠ m.length):EqA 30 l m false:=by
 intro w x y hx hy
 obtain ⟨A,c,rfl,_⟩:=hx.slice
 obtain ⟨B,d,rfl,_⟩:=hy.slice
 obtain ⟨n,hn⟩:∃ n,n = l.length:=⟨_,rfl⟩
 obtain ⟨k,hk⟩:∃ n,n = m.length:=⟨_,rfl⟩
 rw [<- hn,<- hk] at h ⊢
 have t1:(n == k) = false:=beq_eq_false_iff_ne.2 h
 have t2:((n:Int) == (k:Int)) = false:=beq_eq_false_iff_ne.2 (by omega)
 clear hx hy hn hk
 go_enter Tryz.func30,Tryz.ntmps30
 go_wp2_with fail
 go_ret
 exact ⟨rfl,Since.refl w⟩
theorem eq_nil:EqA 30 [] [] true:=by
 intro w x y hx hy
 obtain ⟨A,c,rfl,_⟩:=hx.empty rfl
 obtain ⟨B,d,rfl,_⟩:=hy.empty rfl
 clear hx hy
 go_enter Tryz.func30,Tryz.ntmps30
 go_wp2_with fail
 go_loop [13] (fun i => i = .int .i64 0) (fun i => 0 - (intOf i).toNat)
 case atStart => rfl
 case round =>
   subst hrel
   go_wp2_with fail
   go_ret
   exact ⟨rfl,Since.refl w⟩
set_option maxHeartbeats 4000000 in
theorem eq_some (l m:List A2) (h0:0 < l.length) (hlm:l.length = m.length) (Q:Bool) (hQ:Q = decide (l = m)):EqA 30 l m Q:=by
 intro w x y hx hy
 obtain ⟨b,o,c,rfl,h1,h2,h3,h4⟩:=hx.form h0
 obtain ⟨b',o',c',rfl,g1,g2,g3,g4⟩:=hy.form (by omega)
 obtain ⟨n,hn⟩:∃ n,n = l.length:=⟨_,rfl⟩
 have hm:n = m.length:=hn.trans hlm
 rw [<- hn] at h0 h1 ⊢
 rw [<- hm] at g1 ⊢
 have t1:(n == n) = true:=beq_self_eq_true _
 have hn9:n <= 9223372036854775807:=by unfold maxLen at h2; omega
 have HC:=lH h4
 have HD:=lH g4
 have HN:=lH hn
 have HM:=lH hm
 have HQ:=lH hQ
 clear h4 g4 hx hy hn hm hQ hlm
 go_enter Tryz.func30,Tryz.ntmps30
 go_wp2_with fail
 go_loopw [13] (fun i wr => ∃ (k:Nat),k <= n /\ i = .int .i64 (k:Int) /\ Hid (l.take k = m.take k) /\ Hid (Since w wr)) (fun i _ => n - (intOf i).toNat)
 case atStart => exact ⟨0,by omega,rfl,lH rfl,lH (Since.refl w)⟩
 case round =>
   obtain ⟨k,hk,rfl,HA,HS⟩:=hrel
   by_cases hlt:k < n
   · obtain ⟨⟨t,s⟩,hs⟩:∃ s,l[k]? = some s:=⟨l[k]'(by rw [<- HN.out]; exact hlt),List.getElem?_eq_getElem _⟩
     obtain ⟨⟨u,v⟩,hp⟩:∃ s,m[k]? = some s:=⟨m[k]'(by rw [<- HM.out]; exact hlt),List.getElem?_eq_getElem _⟩
     obtain ⟨m0,m1⟩:=HC.out k _ hs
     replace m0:wr.cell? ⟨b,o + k * 2,none⟩ = some (.int .i64 t):=(Below.cell HS.out (p:=⟨b,o + k * 2,none⟩) h3).trans m0
     replace m1:wr.cell? ⟨b,o + k * 2 + 1,none⟩ = some (.string s):=(Below.cell HS.out (p:=⟨b,o + k * 2 + 1,none⟩) h3).trans m1
     obtain ⟨n0,n1⟩:=HD.out k _ hp
     replace n0:wr.cell? ⟨b',o' + k * 2,none⟩ = some (.int .i64 u):=(Below.cell HS.out (p:=⟨b',o' + k * 2,none⟩) g3).trans n0
     replace n1:wr.cell? ⟨b',o' + k * 2 + 1,none⟩ = some (.string v):=(Below.cell HS.out (p:=⟨b',o' + k * 2 + 1,none⟩) g3).trans n1
     have i1:(0:Int) <= (k:Int):=by omega
     have i2:(k:Int) < (n:Int):=by omega
     by_cases e:t = u /\ s = v
     · obtain ⟨rfl,rfl⟩:=e
       have HA2:Hid (l.take (k + 1) = m.take (k + 1)):=lH (by rw [take_snoc l k _ hs,take_snoc m k _ hp,HA.out])
       have q1:(t == t) = true:=beq_self_eq_true _
       have q2:(s.toList == s.toList) = true:=beq_self_eq_true _
       clear hs hp
       go_wp2_with fail
       go_quiet (fail)
       go_wp2_with fail
       go_roundw
       case rel => exact ⟨k + 1,by omega,by go_num,HA2,lH (HS.out.step (belowN _ _))⟩
       case measure => simp [intOf]; omega
     · have hne:l ≠ m:=take_ne l m k _ _ hs hp (fun h => e (by cases h; exact ⟨rfl,rfl⟩))
       obtain rfl:Q = false:=HQ.out.trans (decide_eq_false hne)
       clear hs hp hne
       by_cases h:t = u
       · subst h
         have q2:(s.toList == v.toList) = false:=str_ne_f (fun h2 => e ⟨rfl,h2⟩)
         clear e
         go_wp2_with fail
         go_quiet (fail)
         go_wp2_with fail
         go_ret
         exact ⟨rfl,HS.out.step (belowN _ _)⟩
       · have q1:(t == u) = false:=beq_eq_false_iff_ne.2 h
         clear e
         go_wp2_with fail
         go_quiet (fail)
         go_wp2_with fail
         go_ret
         exact ⟨rfl,HS.out.step (belowN _ _)⟩
   · obtain rfl:n = k:=by omega
     have h9:=HA.out
     rw [HN.out,List.take_length,<- HN.out,HM.out,List.take_length] at h9
     obtain rfl:Q = true:=HQ.out.trans (decide_eq_true h9)
     clear h9
     go_wp2_with fail
     go_ret
     exact ⟨rfl,HS.out⟩
theorem attrs_eq (l m:List A2):EqA 30 l m (decide (l = m)):=by
 by_cases h:l.length = m.length
 · by_cases h0:l.length = 0
   · obtain rfl:=List.length_eq_zero_iff.1 h0
     obtain rfl:=List.length_eq_zero_iff.1 (h.symm.trans h0)
     rw [decide_eq_true rfl]
     exact eq_nil
   · exact eq_some l m (by omega) h _ rfl
 · rw [decide_eq_false (fun e => h (by rw [e]))]
   exact eq_lens l m h
theorem attrs_same (l:List A2):EqA 30 l l true:=by
 have h:=attrs_eq l l
 rw [decide_eq_true rfl] at h
 exact h
section
open Rec
def SmeT (K:Int) (k u m v e:ByteArray) (L:List A2):Prop:=∀ w x y,AttsS w x L -> AttsS w y L -> Calls Tryz.prog 12 #[rv K k u m v e x,rv K k u m v e y] w fun z w' => z = .returned (.bool true) /\ Since w w'
theorem SmeT.calls0 {K:Int} {k u m v e:ByteArray} {L:List A2} (h:SmeT K k u m v e L) {w:World} {x y:Value} (hx:AttsS w x L) (hy:AttsS w y L) {R:Ending -> World -> Prop} (j:∀ w',Since w w' -> R (.returned (.bool true)) w'):Calls Tryz.prog 12 #[rv K k u m v e x,rv K k u m v e y] w R :=
 (h w x y hx hy).mono fun _ _ ⟨he,hb⟩ => by subst he; exact j _ hb
set_option maxHeartbeats 4000000 in
theorem same_t (K:Int) (k u m v e:ByteArray) (L:List A2):SmeT K k u m v e L:=by
 intro w x y hx hy
 obtain ⟨A,q,rfl,-,-⟩:=hx.slice
 obtain ⟨B,r,rfl,-,-⟩:=hy.slice
 have c1:=attrs_same L
 have t1:(k.toList == k.toList) = true:=beq_self_eq_true _
 have t2:(u.toList == u.toList) = true:=beq_self_eq_true _
 have t3:(m.toList == m.toList) = true:=beq_self_eq_true _
 have t4:(v.toList == v.toList) = true:=beq_self_eq_true _
 have t5:(e.toList == e.toList) = true:=beq_self_eq_true _
 have ha:=lH (hb_new w KT trivial #[.int .i64 K,.string k,.slice A L.length q,.string u,.string m,.string v,.string e] 26)
 have hb:=lH (hb_new (w.alloc (.cells #[.int .i64 K,.string k,.slice A L.length q,.string u,.string m,.string v,.string e] 26)) KT trivial #[.int .i64 K,.string k,.slice B L.length r,.string u,.string m,.string v,.string e] 26)
 replace ha:=lH (ha.out.step ((Below.refl _ (w.alloc (.cells #[.int .i64 K,.string k,.slice A L.length q,.string u,.string m,.string v,.string e] 26))).alloc (Nat.le_refl _) (.cells #[.int .i64 K,.string k,.slice B L.length r,.string u,.string m,.string v,.string e] 26)))
 have HX:=lH (hx.since ha.out.since)
 have HY:=lH (hy.since ha.out.since)
 have HS:=lH ha.out.since
 obtain ⟨_,m0,m1,m2,m3,m4,m5,m6⟩:=hb7 ha
 obtain ⟨_,n0,n1,n2,n3,n4,n5,n6⟩:=hb7 hb
 rw [show (w.alloc (.cells #[.int .i64 K,.string k,.slice A L.length q,.string u,.string m,.string v,.string e] 26)).heap.size = w.heap.size + 1 by simp] at n0 n1 n2 n3 n4 n5 n6
 clear hx hy ha hb
 go_enter Tryz.func12,Tryz.ntmps12
 go_wp2_with fail
 refine c1.calls0 HX.out HY.out ?_
 intro w1 h1
 replace HS:=lH (HS.out.step h1)
 clear h1 m0 m1 m2 m3 m4 m5 m6 n0 n1 n2 n3 n4 n5 n6
 go_wp2_with fail
 go_ret
 exact ⟨rfl,HS.out⟩
end
end Rcd
end Go.Proofs.YtfnmakelbijmkaaGreatDoor
