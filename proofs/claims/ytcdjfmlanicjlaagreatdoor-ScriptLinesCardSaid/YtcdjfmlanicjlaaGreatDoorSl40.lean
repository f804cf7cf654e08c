import Derived.Test.YtcdjfmlanicjlaaGreatDoorSl39
import Derived.RangeFuncBox
import Derived.Test.YtcdjfmlanicjlaaGreatDoorSl36
import Derived.Test.YtcdjfmlanicjlaaGreatDoorSl34
set_option maxRecDepth 100000
namespace Go.Proofs.YtcdjfmlanicjlaaGreatDoor
open Go.RowKit
namespace Kind
open Curve (KMkI KS KI)
def KBy (b b1 b2:Nat) (s:ByteArray) (cu si:Int):World -> Prop:=fun w => Tabs w /\ KS b s w /\ KI b1 cu w /\ KI b2 si w
instance (b b1 b2:Nat) (s:ByteArray) (cu si:Int):Kp (KBy b b1 b2 s cu si):=⟨fun h hb => ⟨Kp.keep h.1 hb,Kp.keep h.2.1 hb,Kp.keep h.2.2.1 hb,Kp.keep h.2.2.2 hb⟩⟩
def KOf (b b1:Nat) (s:ByteArray) (si:Int):World -> Prop:=fun w => Tabs w /\ KS b s w /\ KI b1 si w
instance (b b1:Nat) (s:ByteArray) (si:Int):Kp (KOf b b1 s si):=⟨fun h hb => ⟨Kp.keep h.1 hb,Kp.keep h.2.1 hb,Kp.keep h.2.2 hb⟩⟩
end Kind
namespace Kind
open Curve (KMkI KAll)
theorem rn_1:Ret 50 #[.int .i64 1] (.string ⟨#[65,69,83,45,49,50,56]⟩):=by
 intro w
 go_enter Tryz.func50,Tryz.ntmps50
 go_wp2_with fail
 go_ret
 exact ⟨rfl,rfl⟩
theorem rc_1:Ret 89 #[.int .i64 1] (.int .i64 0):=by
 intro w
 go_enter Tryz.func89,Tryz.ntmps89
 go_wp2_with fail
 go_ret
 exact ⟨rfl,rfl⟩
theorem rn_2:Ret 50 #[.int .i64 2] (.string ⟨#[65,69,83,45,49,57,50]⟩):=by
 intro w
 go_enter Tryz.func50,Tryz.ntmps50
 go_wp2_with fail
 go_ret
 exact ⟨rfl,rfl⟩
theorem rc_2:Ret 89 #[.int .i64 2] (.int .i64 0):=by
 intro w
 go_enter Tryz.func89,Tryz.ntmps89
 go_wp2_with fail
 go_ret
 exact ⟨rfl,rfl⟩
theorem rn_3:Ret 50 #[.int .i64 3] (.string ⟨#[65,69,83,45,50,53,54]⟩):=by
 intro w
 go_enter Tryz.func50,Tryz.ntmps50
 go_wp2_with fail
 go_ret
 exact ⟨rfl,rfl⟩
theorem rc_3:Ret 89 #[.int .i64 3] (.int .i64 0):=by
 intro w
 go_enter Tryz.func89,Tryz.ntmps89
 go_wp2_with fail
 go_ret
 exact ⟨rfl,rfl⟩
theorem rn_4:Ret 50 #[.int .i64 4] (.string ⟨#[84,68,69,83,45,50]⟩):=by
 intro w
 go_enter Tryz.func50,Tryz.ntmps50
 go_wp2_with fail
 go_ret
 exact ⟨rfl,rfl⟩
theorem rc_4:Ret 89 #[.int .i64 4] (.int .i64 0):=by
 intro w
 go_enter Tryz.func89,Tryz.ntmps89
 go_wp2_with fail
 go_ret
 exact ⟨rfl,rfl⟩
theorem rn_5:Ret 50 #[.int .i64 5] (.string ⟨#[84,68,69,83,45,51]⟩):=by
 intro w
 go_enter Tryz.func50,Tryz.ntmps50
 go_wp2_with fail
 go_ret
 exact ⟨rfl,rfl⟩
theorem rc_5:Ret 89 #[.int .i64 5] (.int .i64 0):=by
 intro w
 go_enter Tryz.func89,Tryz.ntmps89
 go_wp2_with fail
 go_ret
 exact ⟨rfl,rfl⟩
theorem rn_6:Ret 50 #[.int .i64 6] (.string ⟨#[72,77,65,67,45,83,72,65,50,53,54]⟩):=by
 intro w
 go_enter Tryz.func50,Tryz.ntmps50
 go_wp2_with fail
 go_ret
 exact ⟨rfl,rfl⟩
theorem rc_6:Ret 89 #[.int .i64 6] (.int .i64 0):=by
 intro w
 go_enter Tryz.func89,Tryz.ntmps89
 go_wp2_with fail
 go_ret
 exact ⟨rfl,rfl⟩
theorem rn_7:Ret 50 #[.int .i64 7] (.string ⟨#[72,77,65,67,45,83,72,65,53,49,50]⟩):=by
 intro w
 go_enter Tryz.func50,Tryz.ntmps50
 go_wp2_with fail
 go_ret
 exact ⟨rfl,rfl⟩
theorem rc_7:Ret 89 #[.int .i64 7] (.int .i64 0):=by
 intro w
 go_enter Tryz.func89,Tryz.ntmps89
 go_wp2_with fail
 go_ret
 exact ⟨rfl,rfl⟩
theorem rn_8:Ret 50 #[.int .i64 8] (.string ⟨#[69,67,45,80,50,50,52]⟩):=by
 intro w
 go_enter Tryz.func50,Tryz.ntmps50
 go_wp2_with fail
 go_ret
 exact ⟨rfl,rfl⟩
theorem rc_8:Ret 89 #[.int .i64 8] (.int .i64 1):=by
 intro w
 go_enter Tryz.func89,Tryz.ntmps89
 go_wp2_with fail
 go_ret
 exact ⟨rfl,rfl⟩
theorem rn_9:Ret 50 #[.int .i64 9] (.string ⟨#[69,67,45,80,50,53,54]⟩):=by
 intro w
 go_enter Tryz.func50,Tryz.ntmps50
 go_wp2_with fail
 go_ret
 exact ⟨rfl,rfl⟩
theorem rc_9:Ret 89 #[.int .i64 9] (.int .i64 2):=by
 intro w
 go_enter Tryz.func89,Tryz.ntmps89
 go_wp2_with fail
 go_ret
 exact ⟨rfl,rfl⟩
theorem rn_10:Ret 50 #[.int .i64 10] (.string ⟨#[69,67,45,80,51,56,52]⟩):=by
 intro w
 go_enter Tryz.func50,Tryz.ntmps50
 go_wp2_with fail
 go_ret
 exact ⟨rfl,rfl⟩
theorem rc_10:Ret 89 #[.int .i64 10] (.int .i64 3):=by
 intro w
 go_enter Tryz.func89,Tryz.ntmps89
 go_wp2_with fail
 go_ret
 exact ⟨rfl,rfl⟩
theorem rn_11:Ret 50 #[.int .i64 11] (.string ⟨#[69,67,45,80,53,50,49]⟩):=by
 intro w
 go_enter Tryz.func50,Tryz.ntmps50
 go_wp2_with fail
 go_ret
 exact ⟨rfl,rfl⟩
theorem rc_11:Ret 89 #[.int .i64 11] (.int .i64 4):=by
 intro w
 go_enter Tryz.func89,Tryz.ntmps89
 go_wp2_with fail
 go_ret
 exact ⟨rfl,rfl⟩
theorem rn_no (k:Int) (h:k < 1 ∨ 11 < k):Ret 50 #[.int .i64 k] (.string ⟨#[]⟩):=by
 intro w
 have a1:(k == 1) = false:=by rw [beq_eq_false_iff_ne]; omega
 have a2:(k == 2) = false:=by rw [beq_eq_false_iff_ne]; omega
 have a3:(k == 3) = false:=by rw [beq_eq_false_iff_ne]; omega
 have a4:(k == 4) = false:=by rw [beq_eq_false_iff_ne]; omega
 have a5:(k == 5) = false:=by rw [beq_eq_false_iff_ne]; omega
 have a6:(k == 6) = false:=by rw [beq_eq_false_iff_ne]; omega
 have a7:(k == 7) = false:=by rw [beq_eq_false_iff_ne]; omega
 have a8:(k == 8) = false:=by rw [beq_eq_false_iff_ne]; omega
 have a9:(k == 9) = false:=by rw [beq_eq_false_iff_ne]; omega
 have a10:(k == 10) = false:=by rw [beq_eq_false_iff_ne]; omega
 have a11:(k == 11) = false:=by rw [beq_eq_false_iff_ne]; omega
 clear h
 go_enter Tryz.func50,Tryz.ntmps50
 go_wp2_with fail
 go_ret
 exact ⟨rfl,rfl⟩
theorem rc_no (k:Int) (h:k < 1 ∨ 11 < k):Ret 89 #[.int .i64 k] (.int .i64 0):=by
 intro w
 by_cases h1:8 <= k
 · have h2:¬ k <= 11:=by omega
   clear h
   go_enter Tryz.func89,Tryz.ntmps89
   go_wp2_with fail
   go_ret
   exact ⟨rfl,rfl⟩
 · clear h
   go_enter Tryz.func89,Tryz.ntmps89
   go_wp2_with fail
   go_ret
   exact ⟨rfl,rfl⟩
theorem rname_ret (no:Int) (X:ByteArray) (hX:X = bs (rowOf no).1):Ret 50 #[.int .i64 no] (.string X):=by
 subst hX
 rcases row_cases no with h | rfl | rfl | rfl | rfl | rfl | rfl | rfl | rfl | rfl | rfl | rfl
 · rw [rowOf_out no h]; exact rn_no no h
 · exact rn_1
 · exact rn_2
 · exact rn_3
 · exact rn_4
 · exact rn_5
 · exact rn_6
 · exact rn_7
 · exact rn_8
 · exact rn_9
 · exact rn_10
 · exact rn_11
theorem rsize_ret (no:Int) (X:Int) (hX:X = (rowOf no).2.1):Ret 88 #[.int .i64 no] (.int .i64 X):=by
 subst hX
 rcases row_cases no with h | rfl | rfl | rfl | rfl | rfl | rfl | rfl | rfl | rfl | rfl | rfl
 · rw [rowOf_out no h]; exact rsize_no no h
 · exact rsize_1
 · exact rsize_2
 · exact rsize_3
 · exact rsize_4
 · exact rsize_5
 · exact rsize_6
 · exact rsize_7
 · exact rsize_8
 · exact rsize_9
 · exact rsize_10
 · exact rsize_11
theorem rcurve_ret (no:Int) (X:Int) (hX:X = (rowOf no).2.2.2.1):Ret 89 #[.int .i64 no] (.int .i64 X):=by
 subst hX
 rcases row_cases no with h | rfl | rfl | rfl | rfl | rfl | rfl | rfl | rfl | rfl | rfl | rfl
 · rw [rowOf_out no h]; exact rc_no no h
 · exact rc_1
 · exact rc_2
 · exact rc_3
 · exact rc_4
 · exact rc_5
 · exact rc_6
 · exact rc_7
 · exact rc_8
 · exact rc_9
 · exact rc_10
 · exact rc_11
end Kind
namespace Kind
open Curve (KMkI KAll)
def Tab2:World -> Prop:=fun w => Tabs w /\ Curve.Tabs w
instance:Kp Tab2:=⟨fun h hb => ⟨Kp.keep h.1 hb,Kp.keep h.2 hb⟩⟩
theorem Tab2.since {w w':World} (h:Tab2 w) (hs:Since w w'):Tab2 w':=Kp.keep h hs
theorem KMk.t2 {f:Nat} {args:Array Value} {v:Value} (h:KMk Tabs f args v):KMk Tab2 f args v:=h.weak (fun _ h => h.1)
def chkE (r:Row) (s:List UInt8):Int:=if r.2.1 = 0 then 8 else if (s.length:Int) ≠ r.2.1 then 9 else if r.2.2.2.1 ≠ 0 /\ Curve.scB (Curve.rowOf r.2.2.2.1) s = false then 10 else 0
theorem chk_0 (no:Int) (s:ByteArray) (x y z:ByteArray) (n c:Int) (hn:(n == 0) = true) (c1:KMk Tab2 82 #[.int .i64 no] (.agg #[.string x,.int .i64 n,.string y,.int .i64 c,.string z])):KMk Tab2 83 #[.int .i64 no,.string s] (.int .i64 8):=by
 intro w hT
 go_enter Tryz.func83,Tryz.ntmps83
 go_wp2_with fail
 refine c1.calls0 hT ?_
 intro w1 h1
 have HSB:=lH (Since.alloc h1 (.cells #[.string x,.int .i64 n,.string y,.int .i64 c,.string z] 107))
 clear hT h1
 go_wp2_with fail
 go_ret
 exact ⟨rfl,HSB.out⟩
theorem chk_l (no:Int) (s:ByteArray) (x y z:ByteArray) (n c:Int) (hn:(n == 0) = false) (hl:((s.size:Int) != n) = true) (c1:KMk Tab2 82 #[.int .i64 no] (.agg #[.string x,.int .i64 n,.string y,.int .i64 c,.string z])):KMk Tab2 83 #[.int .i64 no,.string s] (.int .i64 9):=by
 intro w hT
 go_enter Tryz.func83,Tryz.ntmps83
 go_wp2_with fail
 refine c1.calls0 hT ?_
 intro w1 h1
 have HSB:=lH (Since.alloc h1 (.cells #[.string x,.int .i64 n,.string y,.int .i64 c,.string z] 107))
 clear hT h1
 go_wp2_with fail
 go_ret
 exact ⟨rfl,HSB.out⟩
theorem chk_n (no:Int) (s:ByteArray) (x y z:ByteArray) (n c:Int) (hn:(n == 0) = false) (hl:((s.size:Int) != n) = false) (hc:(c != 0) = false) (c1:KMk Tab2 82 #[.int .i64 no] (.agg #[.string x,.int .i64 n,.string y,.int .i64 c,.string z])):KMk Tab2 83 #[.int .i64 no,.string s] (.int .i64 0):=by
 intro w hT
 go_enter Tryz.func83,Tryz.ntmps83
 go_wp2_with fail
 refine c1.calls0 hT ?_
 intro w1 h1
 have HSB:=lH (Since.alloc h1 (.cells #[.string x,.int .i64 n,.string y,.int .i64 c,.string z] 107))
 clear hT h1
 go_wp2_with fail
 go_ret
 exact ⟨rfl,HSB.out⟩
theorem chk_f (no:Int) (s:ByteArray) (x y z:ByteArray) (n c:Int) (hn:(n == 0) = false) (hl:((s.size:Int) != n) = false) (hc:(c != 0) = true) (c1:KMk Tab2 82 #[.int .i64 no] (.agg #[.string x,.int .i64 n,.string y,.int .i64 c,.string z])) (c2:KMk Tab2 94 #[.int .i64 c,.string s] (.bool false)):KMk Tab2 83 #[.int .i64 no,.string s] (.int .i64 10):=by
 intro w hT
 go_enter Tryz.func83,Tryz.ntmps83
 go_wp2_with fail
 refine c1.calls0 hT ?_
 intro w1 h1
 have HSB:=lH (Since.alloc h1 (.cells #[.string x,.int .i64 n,.string y,.int .i64 c,.string z] 107))
 have HTB:=lH (Kp.keep hT HSB.out)
 clear hT h1
 go_wp2_with fail
 refine c2.calls0 HTB.out ?_
 intro w2 h2
 have HSC:=lH (HSB.out.step h2)
 clear h2
 go_wp2_with fail
 go_ret
 exact ⟨rfl,HSC.out⟩
theorem chk_t (no:Int) (s:ByteArray) (x y z:ByteArray) (n c:Int) (hn:(n == 0) = false) (hl:((s.size:Int) != n) = false) (hc:(c != 0) = true) (c1:KMk Tab2 82 #[.int .i64 no] (.agg #[.string x,.int .i64 n,.string y,.int .i64 c,.string z])) (c2:KMk Tab2 94 #[.int .i64 c,.string s] (.bool true)):KMk Tab2 83 #[.int .i64 no,.string s] (.int .i64 0):=by
 intro w hT
 go_enter Tryz.func83,Tryz.ntmps83
 go_wp2_with fail
 refine c1.calls0 hT ?_
 intro w1 h1
 have HSB:=lH (Since.alloc h1 (.cells #[.string x,.int .i64 n,.string y,.int .i64 c,.string z] 107))
 have HTB:=lH (Kp.keep hT HSB.out)
 clear hT h1
 go_wp2_with fail
 refine c2.calls0 HTB.out ?_
 intro w2 h2
 have HSC:=lH (HSB.out.step h2)
 clear h2
 go_wp2_with fail
 go_ret
 exact ⟨rfl,HSC.out⟩
theorem check_k (no:Int) (s:ByteArray) (hm:s.size <= 140737488355328) (E:Int) (hE:E = chkE (rowOf no) s.data.toList):KMk Tab2 83 #[.int .i64 no,.string s] (.int .i64 E):=by
 subst hE
 have c1:=KMk.t2 (by_k no)
 unfold rowV at c1
 unfold chkE
 have hl:s.data.toList.length = s.size:=rfl
 rw [hl]
 by_cases h0:(rowOf no).2.1 = 0
 · rw [if_pos h0]; exact chk_0 no s _ _ _ _ _ (beq_iff_eq.2 h0) c1
 · rw [if_neg h0]
   by_cases h1:(s.size:Int) ≠ (rowOf no).2.1
   · rw [if_pos h1]; exact chk_l no s _ _ _ _ _ (beq_eq_false_iff_ne.2 h0) (bne_iff_ne.2 h1) c1
   · have h1':(s.size:Int) = (rowOf no).2.1:=by omega
     rw [if_neg h1]
     by_cases h2:(rowOf no).2.2.2.1 = 0
     · rw [if_neg (fun h => h.1 h2)]; exact chk_n no s _ _ _ _ _ (beq_eq_false_iff_ne.2 h0) (bne_eq_false_iff_eq.2 h1') (bne_eq_false_iff_eq.2 h2) c1
     · have c2:KMk Tab2 94 #[.int .i64 (rowOf no).2.2.2.1,.string s] (.bool (Curve.scB (Curve.rowOf (rowOf no).2.2.2.1) s.data.toList)):=(Curve.scalar_k _ s hm _ rfl).weak (fun _ h => h.2)
       cases hq:Curve.scB (Curve.rowOf (rowOf no).2.2.2.1) s.data.toList with
       | false =>
         rw [hq] at c2
         rw [if_pos ⟨h2,rfl⟩]; exact chk_f no s _ _ _ _ _ (beq_eq_false_iff_ne.2 h0) (bne_eq_false_iff_eq.2 h1') (bne_iff_ne.2 h2) c1 c2
       | true =>
         rw [hq] at c2
         rw [if_neg (fun h => by cases h.2)]; exact chk_t no s _ _ _ _ _ (beq_eq_false_iff_ne.2 h0) (bne_eq_false_iff_eq.2 h1') (bne_iff_ne.2 h2) c1 c2
theorem rchk_0 (no:Int) (s:ByteArray) (n _c:Int) (hn:(n == 0) = true) (c1:Ret 88 #[.int .i64 no] (.int .i64 n)):Mak 76 #[.int .i64 no,.string s] (.int .i64 8):=by
 intro w
 have HS:=lH (Since.refl w)
 go_enter Tryz.func76,Tryz.ntmps76
 go_wp2_with fail
 repeat (with_reducible refine c1.calls ?_; try go_wp2_with fail)
 go_ret
 exact ⟨rfl,HS.out⟩
theorem rchk_l (no:Int) (s:ByteArray) (n _c:Int) (hn:(n == 0) = false) (hl:((s.size:Int) != n) = true) (c1:Ret 88 #[.int .i64 no] (.int .i64 n)):Mak 76 #[.int .i64 no,.string s] (.int .i64 9):=by
 intro w
 have HS:=lH (Since.refl w)
 go_enter Tryz.func76,Tryz.ntmps76
 go_wp2_with fail
 repeat (with_reducible refine c1.calls ?_; try go_wp2_with fail)
 go_ret
 exact ⟨rfl,HS.out⟩
theorem rchk_n (no:Int) (s:ByteArray) (n c:Int) (hn:(n == 0) = false) (hl:((s.size:Int) != n) = false) (hc:decide (0 < c) = false) (c1:Ret 88 #[.int .i64 no] (.int .i64 n)) (c2:Ret 89 #[.int .i64 no] (.int .i64 c)):Mak 76 #[.int .i64 no,.string s] (.int .i64 0):=by
 intro w
 have HS:=lH (Since.refl w)
 go_enter Tryz.func76,Tryz.ntmps76
 go_wp2_with fail
 repeat ((first | with_reducible refine c1.calls ?_ | with_reducible refine c2.calls ?_); try go_wp2_with fail)
 go_ret
 exact ⟨rfl,HS.out⟩
theorem rchk_f (no:Int) (s:ByteArray) (n c:Int) (hn:(n == 0) = false) (hl:((s.size:Int) != n) = false) (hc:decide (0 < c) = true) (c1:Ret 88 #[.int .i64 no] (.int .i64 n)) (c2:Ret 89 #[.int .i64 no] (.int .i64 c)) (c3:Mak 90 #[.int .i64 c,.string s] (.bool false)):Mak 76 #[.int .i64 no,.string s] (.int .i64 10):=by
 intro w
 have HS:=lH (Since.refl w)
 go_enter Tryz.func76,Tryz.ntmps76
 go_wp2_with fail
 repeat (first | ((first | with_reducible refine c1.calls ?_ | with_reducible refine c2.calls ?_); try go_wp2_with fail) | (with_reducible refine c3.calls HS.out ?_; intro wz hz; replace HS:=lH hz; clear hz; try go_wp2_with fail))
 go_ret
 exact ⟨rfl,HS.out⟩
theorem rchk_t (no:Int) (s:ByteArray) (n c:Int) (hn:(n == 0) = false) (hl:((s.size:Int) != n) = false) (hc:decide (0 < c) = true) (c1:Ret 88 #[.int .i64 no] (.int .i64 n)) (c2:Ret 89 #[.int .i64 no] (.int .i64 c)) (c3:Mak 90 #[.int .i64 c,.string s] (.bool true)):Mak 76 #[.int .i64 no,.string s] (.int .i64 0):=by
 intro w
 have HS:=lH (Since.refl w)
 go_enter Tryz.func76,Tryz.ntmps76
 go_wp2_with fail
 repeat (first | ((first | with_reducible refine c1.calls ?_ | with_reducible refine c2.calls ?_); try go_wp2_with fail) | (with_reducible refine c3.calls HS.out ?_; intro wz hz; replace HS:=lH hz; clear hz; try go_wp2_with fail))
 go_ret
 exact ⟨rfl,HS.out⟩
theorem row_curve (no:Int):0 <= (rowOf no).2.2.2.1:=by
 unfold rowOf
 split
 · rename_i h
   have hall:∀ r ∈ rows,0 <= r.2.2.2.1:=by decide +kernel
   cases hr:rows[(no - 1).toNat]? with
   | none => exact Int.le_refl 0
   | some r => exact hall r (List.mem_of_getElem? hr)
 · exact Int.le_refl 0
theorem rcheck_mak (no:Int) (s:ByteArray) (hm:s.size <= 140737488355328) (E:Int) (hE:E = chkE (rowOf no) s.data.toList):Mak 76 #[.int .i64 no,.string s] (.int .i64 E):=by
 subst hE
 have c1:=rsize_ret no _ rfl
 have c2:=rcurve_ret no _ rfl
 have hcv:=row_curve no
 unfold chkE
 have hl:s.data.toList.length = s.size:=rfl
 rw [hl]
 by_cases h0:(rowOf no).2.1 = 0
 · rw [if_pos h0]; exact rchk_0 no s _ 0 (beq_iff_eq.2 h0) c1
 · rw [if_neg h0]
   by_cases h1:(s.size:Int) ≠ (rowOf no).2.1
   · rw [if_pos h1]; exact rchk_l no s _ 0 (beq_eq_false_iff_ne.2 h0) (bne_iff_ne.2 h1) c1
   · have h1':(s.size:Int) = (rowOf no).2.1:=by omega
     rw [if_neg h1]
     by_cases h2:(rowOf no).2.2.2.1 = 0
     · rw [if_neg (fun h => h.1 h2)]; exact rchk_n no s _ _ (beq_eq_false_iff_ne.2 h0) (bne_eq_false_iff_eq.2 h1') (decide_eq_false (by omega)) c1 c2
     · have c3:=Curve.rscalar_mak (rowOf no).2.2.2.1 s hm _ rfl
       cases hq:Curve.scB (Curve.rowOf (rowOf no).2.2.2.1) s.data.toList with
       | false =>
         rw [hq] at c3
         rw [if_pos ⟨h2,rfl⟩]; exact rchk_f no s _ _ (beq_eq_false_iff_ne.2 h0) (bne_eq_false_iff_eq.2 h1') (decide_eq_true (by omega)) c1 c2 c3
       | true =>
         rw [hq] at c3
         rw [if_neg (fun h => by cases h.2)]; exact rchk_t no s _ _ (beq_eq_false_iff_ne.2 h0) (bne_eq_false_iff_eq.2 h1') (decide_eq_true (by omega)) c1 c2 c3
theorem tabs4_of {W : World} (h : laidMetH Tryz.prog [("unicode/utf8.acceptRanges", Rows.laid_unicode_utf8_acceptRanges), ("claviger/curve.lines", Rows.laid_claviger_curve_lines), ("claviger/kind.lines", Rows.laid_claviger_kind_lines), ("unicode/utf8.first", Rows.laid_unicode_utf8_first)] W) : Tab2 W := by
 rw [MakeChecks.laidMetH_plain _ _ _ (by kernel_rfl)] at h
 obtain ⟨ps,⟨_,_,_,_,_,_,_,_,_,_,⟨g0,t0,cs0,f0,p0,q0,hg0,ht0,hv0,hd0,⟨g1,t1,cs1,f1,p1,q1,hg1,ht1,hv1,hd1,_,_⟩,_⟩,_⟩,_,_⟩:=h
 exact ⟨tabs_at hg1 ht1 hv1 hd1,Curve.tabs_at hg0 ht0 hv0 hd0⟩
end Kind
namespace Rec
open Att Kind
def RdR (f:Nat) (L:List A2) (args:Value -> Array Value) (v:Value):Prop:=∀ w x,Tab2 w -> AttsS w x L -> Calls Tryz.prog f (args x) w fun e w' => e = .returned v /\ Below w.heap.size w w'
theorem RdR.calls0 {f:Nat} {L:List A2} {args:Value -> Array Value} {v x:Value} (h:RdR f L args v) {w:World} (hT:Tab2 w) (hx:AttsS w x L) {R:Ending -> World -> Prop} (k:∀ w',Since w w' -> R (.returned v) w'):Calls Tryz.prog f (args x) w R :=
 (h w x hT hx).mono fun _ _ ⟨he,hb⟩ => by subst he; exact k _ hb
abbrev rv (K:Int) (k u m v e:ByteArray) (x:Value):Value:=.agg #[.int .i64 K,.string k,x,.string u,.string m,.string v,.string e]
def recE (K:Int) (k:ByteArray) (L:List A2):Int:=if chkE (rowOf K) k.data.toList ≠ 0 then chkE (rowOf K) k.data.toList else attE L
theorem chk_bad (K:Int) (k u m v e:ByteArray) (L:List A2) (E:Int) (hE:(E != 0) = true) (c1:KMk Tab2 83 #[.int .i64 K,.string k] (.int .i64 E)):RdR 67 L (fun x => #[rv K k u m v e x]) (.int .i64 E):=by
 intro w x hT hx
 obtain ⟨A,q,rfl,hq1,hq2⟩:=hx.slice
 have hp:=lH (hb_new w Tab2 hT #[.int .i64 K,.string k,.slice A L.length q,.string u,.string m,.string v,.string e] 60)
 have HX:=lH (hx.since hp.out.since)
 have HS:=lH hp.out.since
 obtain ⟨_,m0,m1,m2,m3,m4,m5,m6⟩:=hb7 hp
 clear hx hT
 go_enter Tryz.func67,Tryz.ntmps67
 go_wp2_with fail
 clear m0 m1 m2 m3 m4 m5 m6
 refine (c1.calls0 hp.out.tabs) ?_
 intro w1 h1
 replace HS:=lH (HS.out.step (Up.up h1))
 clear h1
 go_wp2_with fail
 go_ret
 exact ⟨rfl,HS.out⟩
theorem chk_ok (K:Int) (k u m v e:ByteArray) (L:List A2) (E:Int) (c1:KMk Tab2 83 #[.int .i64 K,.string k] (.int .i64 0)) (c2:RdA 84 L (fun x => #[x]) (.int .i64 E)):RdR 67 L (fun x => #[rv K k u m v e x]) (.int .i64 E):=by
 intro w x hT hx
 obtain ⟨A,q,rfl,hq1,hq2⟩:=hx.slice
 have hp:=lH (hb_new w Tab2 hT #[.int .i64 K,.string k,.slice A L.length q,.string u,.string m,.string v,.string e] 60)
 have HX:=lH (hx.since hp.out.since)
 have HS:=lH hp.out.since
 obtain ⟨_,m0,m1,m2,m3,m4,m5,m6⟩:=hb7 hp
 clear hx hT
 go_enter Tryz.func67,Tryz.ntmps67
 go_wp2_with fail
 clear m0 m1 m2 m3 m4 m5 m6
 refine (c1.calls0 hp.out.tabs) ?_
 intro w1 h1
 replace hp:=lH (hp.out.step (Up.up h1))
 replace HX:=lH (HX.out.since (Up.up h1))
 replace HS:=lH (HS.out.step (Up.up h1))
 clear h1
 obtain ⟨_,m0,m1,m2,m3,m4,m5,m6⟩:=hb7 hp
 go_wp2_with fail
 clear m0 m1 m2 m3 m4 m5 m6
 refine (c2.calls0 HX.out) ?_
 intro w2 h2
 replace HS:=lH (HS.out.step (Up.up h2))
 clear h2
 go_wp2_with fail
 go_ret
 exact ⟨rfl,HS.out⟩
theorem rchk_bad (K:Int) (k u m v e:ByteArray) (L:List A2) (E:Int) (hE:(E != 0) = true) (c1:Mak 76 #[.int .i64 K,.string k] (.int .i64 E)):RdR 52 L (fun x => #[rv K k u m v e x]) (.int .i64 E):=by
 intro w x hT hx
 obtain ⟨A,q,rfl,hq1,hq2⟩:=hx.slice
 have hp:=lH (hb_new w Tab2 hT #[.int .i64 K,.string k,.slice A L.length q,.string u,.string m,.string v,.string e] 60)
 have HX:=lH (hx.since hp.out.since)
 have HS:=lH hp.out.since
 obtain ⟨_,m0,m1,m2,m3,m4,m5,m6⟩:=hb7 hp
 clear hx hT
 go_enter Tryz.func52,Tryz.ntmps52
 go_wp2_with fail
 clear m0 m1 m2 m3 m4 m5 m6
 refine (c1.calls0) ?_
 intro w1 h1
 replace HS:=lH (HS.out.step (Up.up h1))
 clear h1
 go_wp2_with fail
 go_ret
 exact ⟨rfl,HS.out⟩
theorem rchk_ok (K:Int) (k u m v e:ByteArray) (L:List A2) (E:Int) (c1:Mak 76 #[.int .i64 K,.string k] (.int .i64 0)) (c2:RdA 77 L (fun x => #[x]) (.int .i64 E)):RdR 52 L (fun x => #[rv K k u m v e x]) (.int .i64 E):=by
 intro w x hT hx
 obtain ⟨A,q,rfl,hq1,hq2⟩:=hx.slice
 have hp:=lH (hb_new w Tab2 hT #[.int .i64 K,.string k,.slice A L.length q,.string u,.string m,.string v,.string e] 60)
 have HX:=lH (hx.since hp.out.since)
 have HS:=lH hp.out.since
 obtain ⟨_,m0,m1,m2,m3,m4,m5,m6⟩:=hb7 hp
 clear hx hT
 go_enter Tryz.func52,Tryz.ntmps52
 go_wp2_with fail
 clear m0 m1 m2 m3 m4 m5 m6
 refine (c1.calls0) ?_
 intro w1 h1
 replace hp:=lH (hp.out.step (Up.up h1))
 replace HX:=lH (HX.out.since (Up.up h1))
 replace HS:=lH (HS.out.step (Up.up h1))
 clear h1
 obtain ⟨_,m0,m1,m2,m3,m4,m5,m6⟩:=hb7 hp
 go_wp2_with fail
 clear m0 m1 m2 m3 m4 m5 m6
 refine (c2.calls0 HX.out) ?_
 intro w2 h2
 replace HS:=lH (HS.out.step (Up.up h2))
 clear h2
 go_wp2_with fail
 go_ret
 exact ⟨rfl,HS.out⟩
theorem check_rec (K:Int) (k u m v e:ByteArray) (L:List A2) (hk:k.size <= 100000) (E:Int) (hE:E = recE K k L):RdR 67 L (fun x => #[rv K k u m v e x]) (.int .i64 E):=by
 subst hE
 have c1:=check_k K k (by omega) _ rfl
 unfold recE
 by_cases h:chkE (rowOf K) k.data.toList = 0
 · rw [if_neg (by omega)]
   rw [h] at c1
   exact chk_ok K k u m v e L _ c1 (check_rd L _ rfl)
 · rw [if_pos h]
   exact chk_bad K k u m v e L _ (by rw [bne_iff_ne]; exact h) c1
theorem rcheck_rec (K:Int) (k u m v e:ByteArray) (L:List A2) (hk:k.size <= 100000) (E:Int) (hE:E = recE K k L):RdR 52 L (fun x => #[rv K k u m v e x]) (.int .i64 E):=by
 subst hE
 have c1:=rcheck_mak K k (by omega) _ rfl
 unfold recE
 by_cases h:chkE (rowOf K) k.data.toList = 0
 · rw [if_neg (by omega)]
   rw [h] at c1
   exact rchk_ok K k u m v e L _ c1 (rcheck_rd L _ rfl)
 · rw [if_pos h]
   exact rchk_bad K k u m v e L _ (by rw [bne_iff_ne]; exact h) c1
end Rec
namespace Rcd
open Att Rec
end Rcd
end Go.Proofs.YtcdjfmlanicjlaaGreatDoor
namespace Go.Proofs.YtcdjfmlanicjlaaGreatDoor
open Go.RowKit Go.Deep
namespace Rcd
open Att
open Rec
end Rcd
end Go.Proofs.YtcdjfmlanicjlaaGreatDoor
