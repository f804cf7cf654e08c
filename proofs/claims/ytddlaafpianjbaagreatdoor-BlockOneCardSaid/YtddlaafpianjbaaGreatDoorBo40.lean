import Derived.Test.YtddlaafpianjbaaGreatDoorBo36
import Derived.RangeFuncBox
set_option maxRecDepth 100000
namespace Go.Proofs.YtddlaafpianjbaaGreatDoor
open Go.RowKit
namespace Kind
open Curve (KMkI KS KI)
def KBy (b b1 b2:Nat) (s:ByteArray) (cu si:Int):World -> Prop:=fun w => Tabs w /\ KS b s w /\ KI b1 cu w /\ KI b2 si w
instance (b b1 b2:Nat) (s:ByteArray) (cu si:Int):Kp (KBy b b1 b2 s cu si):=⟨fun h hb => ⟨Kp.keep h.1 hb,Kp.keep h.2.1 hb,Kp.keep h.2.2.1 hb,Kp.keep h.2.2.2 hb⟩⟩
def KOf (b b1:Nat) (s:ByteArray) (si:Int):World -> Prop:=fun w => Tabs w /\ KS b s w /\ KI b1 si w
instance (b b1:Nat) (s:ByteArray) (si:Int):Kp (KOf b b1 s si):=⟨fun h hb => ⟨Kp.keep h.1 hb,Kp.keep h.2.1 hb,Kp.keep h.2.2 hb⟩⟩
theorem of1_mk (b b1:Nat) (s:ByteArray) (si:Int) (x y z:ByteArray) (n c:Int) (u1 u2:Bool) (h1:(y.toList == s.toList) = u1) (h2:(n == si) = u2):KMk (KOf b b1 s si) 123 #[.agg #[.string x,.int .i64 n,.string y,.int .i64 c,.string z],.pointer (some ⟨b,0,none⟩),.pointer (some ⟨b1,0,none⟩)] (.bool (u1 && u2)):=by
 intro w hT
 have m0:w.cell? ⟨b,0,none⟩ = some (.string s):=hT.2.1
 have m1:w.cell? ⟨b1,0,none⟩ = some (.int .i64 si):=hT.2.2
 have hl0:=block_lt_of_cell m0
 have hl1:=block_lt_of_cell m1
 clear hT
 cases u1
 all_goals cases u2
 all_goals
   go_enter Tryz.func123,Tryz.ntmps123
   go_wp2_with fail
   go_ret
   exact ⟨rfl,Since.alloc (Since.refl w) _⟩
def wants (s:List UInt8) (si:Int) (r:Row):Bool:=(r.2.2.1 == s) && (r.2.1 == si)
theorem of_k (s:ByteArray) (si n:Int) (q:Bool) (hn:fndL (wants s.data.toList si) rows 0 = (n,q)):KMk Tabs 76 #[.string s,.int .i64 si] (.tuple #[.int .i64 n,.bool q]):=by
 intro w hT
 have HS:=lH (Since.refl w)
 obtain ⟨W1,hW1⟩:∃ W1,W1 = w.alloc (.cells #[.string s] 9):=⟨_,rfl⟩
 have hs1:Since w W1:=by rw [hW1]; exact Since.alloc (Since.refl w) _
 have hk1:KS w.heap.size s W1:=by rw [hW1]; exact (Boxed.new w _ _).cell
 have hk2:KI W1.heap.size si (W1.alloc (.cells #[.int .i64 si] 3)):=(Boxed.new W1 _ _).cell
 have hz:W1.heap.size = w.heap.size + 1:=by rw [hW1]; simp
 have hs2:Since W1 (W1.alloc (.cells #[.int .i64 si] 3)):=Since.alloc (Since.refl W1) _
 have hkk:KOf w.heap.size W1.heap.size s si (W1.alloc (.cells #[.int .i64 si] 3)):=⟨Kp.keep (Kp.keep hT hs1) hs2,Kp.keep hk1 hs2,hk2⟩
 have c2:=find_of (KOf w.heap.size W1.heap.size s si) (fun w h => h.1) (wants s.data.toList si) (.pointer (some ⟨w.heap.size,0,none⟩)) (.pointer (some ⟨W1.heap.size,0,none⟩)) (fun r => of1_mk w.heap.size W1.heap.size s si _ _ _ _ _ _ _ (by rw [toList_d,toList_d,list_bs]) rfl) n q hn
 have hs3:=Since.step hs1 hs2
 rw [hz] at hkk c2
 rw [hW1] at hkk hs3
 have HKK:=lH hkk
 have HS3:=lH hs3
 clear hk1 hk2 hkk hT hn hs1 hs2 hs3 hz hW1
 go_enter Tryz.func76,Tryz.ntmps76
 go_wp2_with fail
 refine c2.calls0 HKK.out ?_
 intro w2 h2
 replace HS:=lH (HS3.out.step h2)
 clear h2
 go_wp2_with fail
 go_ret2
 exact ⟨rfl,HS.out⟩
end Kind
namespace Kind
open Curve (KMkI KAll)
theorem rc_1:Ret 86 #[.int .i64 1] (.int .i64 0):=by
 intro w
 go_enter Tryz.func86,Tryz.ntmps86
 go_wp2_with fail
 go_ret
 exact ⟨rfl,rfl⟩
theorem rc_2:Ret 86 #[.int .i64 2] (.int .i64 0):=by
 intro w
 go_enter Tryz.func86,Tryz.ntmps86
 go_wp2_with fail
 go_ret
 exact ⟨rfl,rfl⟩
theorem rc_3:Ret 86 #[.int .i64 3] (.int .i64 0):=by
 intro w
 go_enter Tryz.func86,Tryz.ntmps86
 go_wp2_with fail
 go_ret
 exact ⟨rfl,rfl⟩
theorem rc_4:Ret 86 #[.int .i64 4] (.int .i64 0):=by
 intro w
 go_enter Tryz.func86,Tryz.ntmps86
 go_wp2_with fail
 go_ret
 exact ⟨rfl,rfl⟩
theorem rc_5:Ret 86 #[.int .i64 5] (.int .i64 0):=by
 intro w
 go_enter Tryz.func86,Tryz.ntmps86
 go_wp2_with fail
 go_ret
 exact ⟨rfl,rfl⟩
theorem rc_6:Ret 86 #[.int .i64 6] (.int .i64 0):=by
 intro w
 go_enter Tryz.func86,Tryz.ntmps86
 go_wp2_with fail
 go_ret
 exact ⟨rfl,rfl⟩
theorem rc_7:Ret 86 #[.int .i64 7] (.int .i64 0):=by
 intro w
 go_enter Tryz.func86,Tryz.ntmps86
 go_wp2_with fail
 go_ret
 exact ⟨rfl,rfl⟩
theorem rc_8:Ret 86 #[.int .i64 8] (.int .i64 1):=by
 intro w
 go_enter Tryz.func86,Tryz.ntmps86
 go_wp2_with fail
 go_ret
 exact ⟨rfl,rfl⟩
theorem rc_9:Ret 86 #[.int .i64 9] (.int .i64 2):=by
 intro w
 go_enter Tryz.func86,Tryz.ntmps86
 go_wp2_with fail
 go_ret
 exact ⟨rfl,rfl⟩
theorem rc_10:Ret 86 #[.int .i64 10] (.int .i64 3):=by
 intro w
 go_enter Tryz.func86,Tryz.ntmps86
 go_wp2_with fail
 go_ret
 exact ⟨rfl,rfl⟩
theorem rc_11:Ret 86 #[.int .i64 11] (.int .i64 4):=by
 intro w
 go_enter Tryz.func86,Tryz.ntmps86
 go_wp2_with fail
 go_ret
 exact ⟨rfl,rfl⟩
theorem rc_no (k:Int) (h:k < 1 ∨ 11 < k):Ret 86 #[.int .i64 k] (.int .i64 0):=by
 intro w
 by_cases h1:8 <= k
 · have h2:¬ k <= 11:=by omega
   clear h
   go_enter Tryz.func86,Tryz.ntmps86
   go_wp2_with fail
   go_ret
   exact ⟨rfl,rfl⟩
 · clear h
   go_enter Tryz.func86,Tryz.ntmps86
   go_wp2_with fail
   go_ret
   exact ⟨rfl,rfl⟩
theorem rsize_ret (no:Int) (X:Int) (hX:X = (rowOf no).2.1):Ret 50 #[.int .i64 no] (.int .i64 X):=by
 subst hX
 rcases row_cases no with h | rfl | rfl | rfl | rfl | rfl | rfl | rfl | rfl | rfl | rfl | rfl
 · rw [rowOf_out no h]; exact rsize_no no h
 · exact rsize_1
 · exact rsize_2
 · exact rsize_3
 · exact rsize_4
 · exact rsize_5
 · exact rsize_6
 · exact rsize_7
 · exact rsize_8
 · exact rsize_9
 · exact rsize_10
 · exact rsize_11
theorem rletter_ret (no:Int) (X:ByteArray) (hX:X = bs (rowOf no).2.2.1):Ret 17 #[.int .i64 no] (.string X):=by
 subst hX
 rcases row_cases no with h | rfl | rfl | rfl | rfl | rfl | rfl | rfl | rfl | rfl | rfl | rfl
 · rw [rowOf_out no h]; exact rletter_no no h
 · exact rletter_1
 · exact rletter_2
 · exact rletter_3
 · exact rletter_4
 · exact rletter_5
 · exact rletter_6
 · exact rletter_7
 · exact rletter_8
 · exact rletter_9
 · exact rletter_10
 · exact rletter_11
theorem rcurve_ret (no:Int) (X:Int) (hX:X = (rowOf no).2.2.2.1):Ret 86 #[.int .i64 no] (.int .i64 X):=by
 subst hX
 rcases row_cases no with h | rfl | rfl | rfl | rfl | rfl | rfl | rfl | rfl | rfl | rfl | rfl
 · rw [rowOf_out no h]; exact rc_no no h
 · exact rc_1
 · exact rc_2
 · exact rc_3
 · exact rc_4
 · exact rc_5
 · exact rc_6
 · exact rc_7
 · exact rc_8
 · exact rc_9
 · exact rc_10
 · exact rc_11
theorem rowOf_at (i:Nat) (r:Row) (h:rows[i]? = some r):rowOf ((i:Int) + 1) = r:=by
 have hi:i < 11:=(List.getElem?_eq_some_iff.1 h).1
 unfold rowOf
 rw [if_pos (by omega),show ((i:Int) + 1 - 1).toNat = i by omega,h]
 rfl
theorem fndL_step (p:Row -> Bool) (k:Nat) (r:Row) (h:rows[k]? = some r) (x:Int × Bool) (hx:fndL p (rows.drop k) k = x):(if p r then ((k:Int) + 1,true) else fndL p (rows.drop (k + 1)) (k + 1)) = x:=by
 have hk:k < rows.length:=(List.getElem?_eq_some_iff.1 h).1
 rw [List.drop_eq_getElem_cons hk,(List.getElem?_eq_some_iff.1 h).2] at hx
 exact hx
set_option maxHeartbeats 2000000 in
theorem rof_ret (s:ByteArray) (si n:Int) (q:Bool) (hn:fndL (wants s.data.toList si) rows 0 = (n,q)):Ret 83 #[.string s,.int .i64 si] (.tuple #[.int .i64 n,.bool q]):=by
 intro w
 have HN:=lH hn
 clear hn
 go_enter Tryz.func83,Tryz.ntmps83
 go_wp2_with fail
 go_loop [6] (fun i => ∃ k:Nat,k <= 11 /\ i = .int .i64 ((k:Int) + 1) /\ Hid (fndL (wants s.data.toList si) (rows.drop k) k = (n,q))) (fun i => 12 - (intOf i).toNat)
 case atStart => exact ⟨0,by omega,rfl,HN⟩
 case round =>
   clear HN
   obtain ⟨k,hk,rfl,HN⟩:=hrel
   by_cases hlt2:k < 11
   · obtain ⟨r,hr⟩:∃ r,rows[k]? = some r:=⟨rows[k]'hlt2,List.getElem?_eq_getElem _⟩
     have hd:=fndL_step _ k r hr _ HN.out
     obtain ⟨z,hz⟩:∃ z,z = r.2.1:=⟨_,rfl⟩
     obtain ⟨y,hy⟩:∃ y,y = bs r.2.2.1:=⟨_,rfl⟩
     have c1:=rletter_ret ((k:Int) + 1) y (by rw [rowOf_at k r hr]; exact hy)
     have c2:=rsize_ret ((k:Int) + 1) z (by rw [rowOf_at k r hr]; exact hz)
     obtain ⟨u1,hu1⟩:∃ b,(r.2.2.1 == s.data.toList) = b:=⟨_,rfl⟩
     obtain ⟨u2,hu2⟩:∃ b,(r.2.1 == si) = b:=⟨_,rfl⟩
     have t1:(y.toList == s.toList) = u1:=by rw [hy,toList_d,toList_d,list_bs]; exact hu1
     have t2:(z == si) = u2:=by rw [hz]; exact hu2
     unfold wants at hd
     rw [hu1,hu2] at hd
     clear hr hz hy hu1 hu2
     cases u1 <;> cases u2
     case true.true =>
       rw [if_pos (by rfl)] at hd
       cases hd
       clear HN
       go_wp2_with fail
       repeat ((first | with_reducible refine c1.calls ?_ | with_reducible refine c2.calls ?_); try go_wp2_with fail)
       go_ret2
       exact ⟨rfl,rfl⟩
     all_goals
       rw [if_neg (by decide)] at hd
       have HN2:=lH hd
       clear hd HN
       go_wp2_with fail
       repeat ((first | with_reducible refine c1.calls ?_ | with_reducible refine c2.calls ?_); try go_wp2_with fail)
       go_round
       case rel => exact ⟨k + 1,by omega,by go_num,HN2⟩
       case measure => simp [intOf]; omega
   · obtain rfl:k = 11:=by omega
     have hd:=HN.out
     cases hd
     go_wp2_with fail
     go_ret2
     exact ⟨rfl,rfl⟩
end Kind
namespace Kind
open Curve (KMkI KAll)
def Tab2:World -> Prop:=fun w => Tabs w /\ Curve.Tabs w
instance:Kp Tab2:=⟨fun h hb => ⟨Kp.keep h.1 hb,Kp.keep h.2 hb⟩⟩
theorem KMk.t2 {f:Nat} {args:Array Value} {v:Value} (h:KMk Tabs f args v):KMk Tab2 f args v:=h.weak (fun _ h => h.1)
def chkE (r:Row) (s:List UInt8):Int:=if r.2.1 = 0 then 8 else if (s.length:Int) ≠ r.2.1 then 9 else if r.2.2.2.1 ≠ 0 /\ Curve.scB (Curve.rowOf r.2.2.2.1) s = false then 10 else 0
theorem chk_0 (no:Int) (s:ByteArray) (x y z:ByteArray) (n c:Int) (hn:(n == 0) = true) (c1:KMk Tab2 85 #[.int .i64 no] (.agg #[.string x,.int .i64 n,.string y,.int .i64 c,.string z])):KMk Tab2 55 #[.int .i64 no,.string s] (.int .i64 8):=by
 intro w hT
 go_enter Tryz.func55,Tryz.ntmps55
 go_wp2_with fail
 refine c1.calls0 hT ?_
 intro w1 h1
 have HSB:=lH (Since.alloc h1 (.cells #[.string x,.int .i64 n,.string y,.int .i64 c,.string z] 104))
 clear hT h1
 go_wp2_with fail
 go_ret
 exact ⟨rfl,HSB.out⟩
theorem chk_l (no:Int) (s:ByteArray) (x y z:ByteArray) (n c:Int) (hn:(n == 0) = false) (hl:((s.size:Int) != n) = true) (c1:KMk Tab2 85 #[.int .i64 no] (.agg #[.string x,.int .i64 n,.string y,.int .i64 c,.string z])):KMk Tab2 55 #[.int .i64 no,.string s] (.int .i64 9):=by
 intro w hT
 go_enter Tryz.func55,Tryz.ntmps55
 go_wp2_with fail
 refine c1.calls0 hT ?_
 intro w1 h1
 have HSB:=lH (Since.alloc h1 (.cells #[.string x,.int .i64 n,.string y,.int .i64 c,.string z] 104))
 clear hT h1
 go_wp2_with fail
 go_ret
 exact ⟨rfl,HSB.out⟩
theorem chk_n (no:Int) (s:ByteArray) (x y z:ByteArray) (n c:Int) (hn:(n == 0) = false) (hl:((s.size:Int) != n) = false) (hc:(c != 0) = false) (c1:KMk Tab2 85 #[.int .i64 no] (.agg #[.string x,.int .i64 n,.string y,.int .i64 c,.string z])):KMk Tab2 55 #[.int .i64 no,.string s] (.int .i64 0):=by
 intro w hT
 go_enter Tryz.func55,Tryz.ntmps55
 go_wp2_with fail
 refine c1.calls0 hT ?_
 intro w1 h1
 have HSB:=lH (Since.alloc h1 (.cells #[.string x,.int .i64 n,.string y,.int .i64 c,.string z] 104))
 clear hT h1
 go_wp2_with fail
 go_ret
 exact ⟨rfl,HSB.out⟩
theorem chk_f (no:Int) (s:ByteArray) (x y z:ByteArray) (n c:Int) (hn:(n == 0) = false) (hl:((s.size:Int) != n) = false) (hc:(c != 0) = true) (c1:KMk Tab2 85 #[.int .i64 no] (.agg #[.string x,.int .i64 n,.string y,.int .i64 c,.string z])) (c2:KMk Tab2 100 #[.int .i64 c,.string s] (.bool false)):KMk Tab2 55 #[.int .i64 no,.string s] (.int .i64 10):=by
 intro w hT
 go_enter Tryz.func55,Tryz.ntmps55
 go_wp2_with fail
 refine c1.calls0 hT ?_
 intro w1 h1
 have HSB:=lH (Since.alloc h1 (.cells #[.string x,.int .i64 n,.string y,.int .i64 c,.string z] 104))
 have HTB:=lH (Kp.keep hT HSB.out)
 clear hT h1
 go_wp2_with fail
 refine c2.calls0 HTB.out ?_
 intro w2 h2
 have HSC:=lH (HSB.out.step h2)
 clear h2
 go_wp2_with fail
 go_ret
 exact ⟨rfl,HSC.out⟩
theorem chk_t (no:Int) (s:ByteArray) (x y z:ByteArray) (n c:Int) (hn:(n == 0) = false) (hl:((s.size:Int) != n) = false) (hc:(c != 0) = true) (c1:KMk Tab2 85 #[.int .i64 no] (.agg #[.string x,.int .i64 n,.string y,.int .i64 c,.string z])) (c2:KMk Tab2 100 #[.int .i64 c,.string s] (.bool true)):KMk Tab2 55 #[.int .i64 no,.string s] (.int .i64 0):=by
 intro w hT
 go_enter Tryz.func55,Tryz.ntmps55
 go_wp2_with fail
 refine c1.calls0 hT ?_
 intro w1 h1
 have HSB:=lH (Since.alloc h1 (.cells #[.string x,.int .i64 n,.string y,.int .i64 c,.string z] 104))
 have HTB:=lH (Kp.keep hT HSB.out)
 clear hT h1
 go_wp2_with fail
 refine c2.calls0 HTB.out ?_
 intro w2 h2
 have HSC:=lH (HSB.out.step h2)
 clear h2
 go_wp2_with fail
 go_ret
 exact ⟨rfl,HSC.out⟩
theorem check_k (no:Int) (s:ByteArray) (hm:s.size <= 140737488355328) (E:Int) (hE:E = chkE (rowOf no) s.data.toList):KMk Tab2 55 #[.int .i64 no,.string s] (.int .i64 E):=by
 subst hE
 have c1:=KMk.t2 (by_k no)
 unfold rowV at c1
 unfold chkE
 have hl:s.data.toList.length = s.size:=rfl
 rw [hl]
 by_cases h0:(rowOf no).2.1 = 0
 · rw [if_pos h0]; exact chk_0 no s _ _ _ _ _ (beq_iff_eq.2 h0) c1
 · rw [if_neg h0]
   by_cases h1:(s.size:Int) ≠ (rowOf no).2.1
   · rw [if_pos h1]; exact chk_l no s _ _ _ _ _ (beq_eq_false_iff_ne.2 h0) (bne_iff_ne.2 h1) c1
   · have h1':(s.size:Int) = (rowOf no).2.1:=by omega
     rw [if_neg h1]
     by_cases h2:(rowOf no).2.2.2.1 = 0
     · rw [if_neg (fun h => h.1 h2)]; exact chk_n no s _ _ _ _ _ (beq_eq_false_iff_ne.2 h0) (bne_eq_false_iff_eq.2 h1') (bne_eq_false_iff_eq.2 h2) c1
     · have c2:KMk Tab2 100 #[.int .i64 (rowOf no).2.2.2.1,.string s] (.bool (Curve.scB (Curve.rowOf (rowOf no).2.2.2.1) s.data.toList)):=(Curve.scalar_k _ s hm _ rfl).weak (fun _ h => h.2)
       cases hq:Curve.scB (Curve.rowOf (rowOf no).2.2.2.1) s.data.toList with
       | false =>
         rw [hq] at c2
         rw [if_pos ⟨h2,rfl⟩]; exact chk_f no s _ _ _ _ _ (beq_eq_false_iff_ne.2 h0) (bne_eq_false_iff_eq.2 h1') (bne_iff_ne.2 h2) c1 c2
       | true =>
         rw [hq] at c2
         rw [if_neg (fun h => by cases h.2)]; exact chk_t no s _ _ _ _ _ (beq_eq_false_iff_ne.2 h0) (bne_eq_false_iff_eq.2 h1') (bne_iff_ne.2 h2) c1 c2
theorem rchk_0 (no:Int) (s:ByteArray) (n _c:Int) (hn:(n == 0) = true) (c1:Ret 50 #[.int .i64 no] (.int .i64 n)):Mak 44 #[.int .i64 no,.string s] (.int .i64 8):=by
 intro w
 have HS:=lH (Since.refl w)
 go_enter Tryz.func44,Tryz.ntmps44
 go_wp2_with fail
 repeat (with_reducible refine c1.calls ?_; try go_wp2_with fail)
 go_ret
 exact ⟨rfl,HS.out⟩
theorem rchk_l (no:Int) (s:ByteArray) (n _c:Int) (hn:(n == 0) = false) (hl:((s.size:Int) != n) = true) (c1:Ret 50 #[.int .i64 no] (.int .i64 n)):Mak 44 #[.int .i64 no,.string s] (.int .i64 9):=by
 intro w
 have HS:=lH (Since.refl w)
 go_enter Tryz.func44,Tryz.ntmps44
 go_wp2_with fail
 repeat (with_reducible refine c1.calls ?_; try go_wp2_with fail)
 go_ret
 exact ⟨rfl,HS.out⟩
theorem rchk_n (no:Int) (s:ByteArray) (n c:Int) (hn:(n == 0) = false) (hl:((s.size:Int) != n) = false) (hc:decide (0 < c) = false) (c1:Ret 50 #[.int .i64 no] (.int .i64 n)) (c2:Ret 86 #[.int .i64 no] (.int .i64 c)):Mak 44 #[.int .i64 no,.string s] (.int .i64 0):=by
 intro w
 have HS:=lH (Since.refl w)
 go_enter Tryz.func44,Tryz.ntmps44
 go_wp2_with fail
 repeat ((first | with_reducible refine c1.calls ?_ | with_reducible refine c2.calls ?_); try go_wp2_with fail)
 go_ret
 exact ⟨rfl,HS.out⟩
theorem rchk_f (no:Int) (s:ByteArray) (n c:Int) (hn:(n == 0) = false) (hl:((s.size:Int) != n) = false) (hc:decide (0 < c) = true) (c1:Ret 50 #[.int .i64 no] (.int .i64 n)) (c2:Ret 86 #[.int .i64 no] (.int .i64 c)) (c3:Mak 87 #[.int .i64 c,.string s] (.bool false)):Mak 44 #[.int .i64 no,.string s] (.int .i64 10):=by
 intro w
 have HS:=lH (Since.refl w)
 go_enter Tryz.func44,Tryz.ntmps44
 go_wp2_with fail
 repeat (first | ((first | with_reducible refine c1.calls ?_ | with_reducible refine c2.calls ?_); try go_wp2_with fail) | (with_reducible refine c3.calls HS.out ?_; intro wz hz; replace HS:=lH hz; clear hz; try go_wp2_with fail))
 go_ret
 exact ⟨rfl,HS.out⟩
theorem rchk_t (no:Int) (s:ByteArray) (n c:Int) (hn:(n == 0) = false) (hl:((s.size:Int) != n) = false) (hc:decide (0 < c) = true) (c1:Ret 50 #[.int .i64 no] (.int .i64 n)) (c2:Ret 86 #[.int .i64 no] (.int .i64 c)) (c3:Mak 87 #[.int .i64 c,.string s] (.bool true)):Mak 44 #[.int .i64 no,.string s] (.int .i64 0):=by
 intro w
 have HS:=lH (Since.refl w)
 go_enter Tryz.func44,Tryz.ntmps44
 go_wp2_with fail
 repeat (first | ((first | with_reducible refine c1.calls ?_ | with_reducible refine c2.calls ?_); try go_wp2_with fail) | (with_reducible refine c3.calls HS.out ?_; intro wz hz; replace HS:=lH hz; clear hz; try go_wp2_with fail))
 go_ret
 exact ⟨rfl,HS.out⟩
theorem row_curve (no:Int):0 <= (rowOf no).2.2.2.1:=by
 unfold rowOf
 split
 · rename_i h
   have hall:∀ r ∈ rows,0 <= r.2.2.2.1:=by decide +kernel
   cases hr:rows[(no - 1).toNat]? with
   | none => exact Int.le_refl 0
   | some r => exact hall r (List.mem_of_getElem? hr)
 · exact Int.le_refl 0
theorem rcheck_mak (no:Int) (s:ByteArray) (hm:s.size <= 140737488355328) (E:Int) (hE:E = chkE (rowOf no) s.data.toList):Mak 44 #[.int .i64 no,.string s] (.int .i64 E):=by
 subst hE
 have c1:=rsize_ret no _ rfl
 have c2:=rcurve_ret no _ rfl
 have hcv:=row_curve no
 unfold chkE
 have hl:s.data.toList.length = s.size:=rfl
 rw [hl]
 by_cases h0:(rowOf no).2.1 = 0
 · rw [if_pos h0]; exact rchk_0 no s _ 0 (beq_iff_eq.2 h0) c1
 · rw [if_neg h0]
   by_cases h1:(s.size:Int) ≠ (rowOf no).2.1
   · rw [if_pos h1]; exact rchk_l no s _ 0 (beq_eq_false_iff_ne.2 h0) (bne_iff_ne.2 h1) c1
   · have h1':(s.size:Int) = (rowOf no).2.1:=by omega
     rw [if_neg h1]
     by_cases h2:(rowOf no).2.2.2.1 = 0
     · rw [if_neg (fun h => h.1 h2)]; exact rchk_n no s _ _ (beq_eq_false_iff_ne.2 h0) (bne_eq_false_iff_eq.2 h1') (decide_eq_false (by omega)) c1 c2
     · have c3:=Curve.rscalar_mak (rowOf no).2.2.2.1 s hm _ rfl
       cases hq:Curve.scB (Curve.rowOf (rowOf no).2.2.2.1) s.data.toList with
       | false =>
         rw [hq] at c3
         rw [if_pos ⟨h2,rfl⟩]; exact rchk_f no s _ _ (beq_eq_false_iff_ne.2 h0) (bne_eq_false_iff_eq.2 h1') (decide_eq_true (by omega)) c1 c2 c3
       | true =>
         rw [hq] at c3
         rw [if_neg (fun h => by cases h.2)]; exact rchk_t no s _ _ (beq_eq_false_iff_ne.2 h0) (bne_eq_false_iff_eq.2 h1') (decide_eq_true (by omega)) c1 c2 c3
end Kind
namespace Load
open Kind (Tab2)
open Kind
def tot (m:Int):Int:=if m = 0 then 0 else if m = 32 then 48 else if m = 24 then 32 else 80
theorem most_vals (l:List UInt8):Kind.mostN l = 0 ∨ Kind.mostN l = 24 ∨ Kind.mostN l = 32 ∨ Kind.mostN l = 64 ∨ Kind.mostN l = 66:=by
 by_cases h1:l = [65]
 · subst h1; exact Or.inr (Or.inr (Or.inl (by decide +kernel)))
 · by_cases h2:l = [84]
   · subst h2; exact Or.inr (Or.inl (by decide +kernel))
   · by_cases h3:l = [72]
     · subst h3; exact Or.inr (Or.inr (Or.inr (Or.inl (by decide +kernel))))
     · by_cases h4:l = [69]
       · subst h4; exact Or.inr (Or.inr (Or.inr (Or.inr (by decide +kernel))))
       · refine Or.inl ?_
         have hn:(Kind.rows.take 11).filter (fun r => r.2.2.1 == l) = []:=by
           rw [List.filter_eq_nil_iff]
           intro r hr h
           have hall:∀ r ∈ Kind.rows.take 11,r.2.2.1 = [65] ∨ r.2.2.1 = [84] ∨ r.2.2.1 = [72] ∨ r.2.2.1 = [69]:=by decide +kernel
           rw [beq_iff_eq] at h
           rcases hall r hr with h5 | h5 | h5 | h5
           · exact h1 (h.symm.trans h5)
           · exact h2 (h.symm.trans h5)
           · exact h3 (h.symm.trans h5)
           · exact h4 (h.symm.trans h5)
         unfold Kind.mostN Kind.mostF
         rw [hn]; rfl
theorem tot_0 (l:ByteArray) (c1:KMk Tab2 84 #[.string l] (.int .i64 0)):KMk Tab2 41 #[.string l] (.int .i64 0):=by
 intro w hT
 have HS:=lH (Since.refl w)
 have HT:=lH hT
 clear hT
 go_enter Tryz.func41,Tryz.ntmps41
 go_wp2_with fail
 repeat (with_reducible refine c1.calls0 HT.out ?_; intro wz hz; replace HT:=lH (Kp.keep HT.out hz); replace HS:=lH (HS.out.step hz); clear hz; try go_wp2_with fail)
 go_ret
 exact ⟨rfl,HS.out⟩
theorem tot_24 (l:ByteArray) (c1:KMk Tab2 84 #[.string l] (.int .i64 24)):KMk Tab2 41 #[.string l] (.int .i64 32):=by
 intro w hT
 have HS:=lH (Since.refl w)
 have HT:=lH hT
 clear hT
 go_enter Tryz.func41,Tryz.ntmps41
 go_wp2_with fail
 repeat (with_reducible refine c1.calls0 HT.out ?_; intro wz hz; replace HT:=lH (Kp.keep HT.out hz); replace HS:=lH (HS.out.step hz); clear hz; try go_wp2_with fail)
 go_ret
 exact ⟨rfl,HS.out⟩
theorem tot_32 (l:ByteArray) (c1:KMk Tab2 84 #[.string l] (.int .i64 32)):KMk Tab2 41 #[.string l] (.int .i64 48):=by
 intro w hT
 have HS:=lH (Since.refl w)
 have HT:=lH hT
 clear hT
 go_enter Tryz.func41,Tryz.ntmps41
 go_wp2_with fail
 repeat (with_reducible refine c1.calls0 HT.out ?_; intro wz hz; replace HT:=lH (Kp.keep HT.out hz); replace HS:=lH (HS.out.step hz); clear hz; try go_wp2_with fail)
 go_ret
 exact ⟨rfl,HS.out⟩
theorem tot_64 (l:ByteArray) (c1:KMk Tab2 84 #[.string l] (.int .i64 64)):KMk Tab2 41 #[.string l] (.int .i64 80):=by
 intro w hT
 have HS:=lH (Since.refl w)
 have HT:=lH hT
 clear hT
 go_enter Tryz.func41,Tryz.ntmps41
 go_wp2_with fail
 repeat (with_reducible refine c1.calls0 HT.out ?_; intro wz hz; replace HT:=lH (Kp.keep HT.out hz); replace HS:=lH (HS.out.step hz); clear hz; try go_wp2_with fail)
 go_ret
 exact ⟨rfl,HS.out⟩
theorem tot_66 (l:ByteArray) (c1:KMk Tab2 84 #[.string l] (.int .i64 66)):KMk Tab2 41 #[.string l] (.int .i64 80):=by
 intro w hT
 have HS:=lH (Since.refl w)
 have HT:=lH hT
 clear hT
 go_enter Tryz.func41,Tryz.ntmps41
 go_wp2_with fail
 repeat (with_reducible refine c1.calls0 HT.out ?_; intro wz hz; replace HT:=lH (Kp.keep HT.out hz); replace HS:=lH (HS.out.step hz); clear hz; try go_wp2_with fail)
 go_ret
 exact ⟨rfl,HS.out⟩
theorem total_k (l:ByteArray) (X:Int) (hX:X = tot (Kind.mostN l.data.toList)):KMk Tab2 41 #[.string l] (.int .i64 X):=by
 subst hX
 have c1:=KMk.t2 (Kind.most_k l _ rfl)
 rcases most_vals l.data.toList with h | h | h | h | h
 all_goals rw [h] at c1 ⊢
 · exact tot_0 l c1
 · exact tot_24 l c1
 · exact tot_32 l c1
 · exact tot_64 l c1
 · exact tot_66 l c1
theorem rtot_0 (l:ByteArray) (c1:Ret 63 #[.string l] (.int .i64 0)):Ret 43 #[.string l] (.int .i64 0):=by
 intro w
 go_enter Tryz.func43,Tryz.ntmps43
 go_wp2_with fail
 repeat (with_reducible refine c1.calls ?_; try go_wp2_with fail)
 go_ret
 exact ⟨rfl,rfl⟩
theorem rtot_24 (l:ByteArray) (c1:Ret 63 #[.string l] (.int .i64 24)):Ret 43 #[.string l] (.int .i64 32):=by
 intro w
 go_enter Tryz.func43,Tryz.ntmps43
 go_wp2_with fail
 repeat (with_reducible refine c1.calls ?_; try go_wp2_with fail)
 go_loop [3] (fun i => ∃ k:Nat,24 + 2 <= k /\ k <= 32 /\ i = .int .i64 (k:Int)) (fun i => 32 - (intOf i).toNat)
 case atStart => exact ⟨24 + 2,by omega,by omega,rfl⟩
 case round =>
   obtain ⟨k,hk0,hk,rfl⟩:=hrel
   by_cases hlt:k < 32
   · have t1:((k:Int) % 16 != 0) = true:=by rw [bne_iff_ne]; omega
     go_wp2_with fail
     go_round
     case rel => exact ⟨k + 1,by omega,by omega,by go_num⟩
     case measure => simp [intOf]; omega
   · obtain rfl:k = 32:=by omega
     go_wp2_with fail
     go_ret
     exact ⟨rfl,rfl⟩
theorem rtot_32 (l:ByteArray) (c1:Ret 63 #[.string l] (.int .i64 32)):Ret 43 #[.string l] (.int .i64 48):=by
 intro w
 go_enter Tryz.func43,Tryz.ntmps43
 go_wp2_with fail
 repeat (with_reducible refine c1.calls ?_; try go_wp2_with fail)
 go_loop [3] (fun i => ∃ k:Nat,32 + 2 <= k /\ k <= 48 /\ i = .int .i64 (k:Int)) (fun i => 48 - (intOf i).toNat)
 case atStart => exact ⟨32 + 2,by omega,by omega,rfl⟩
 case round =>
   obtain ⟨k,hk0,hk,rfl⟩:=hrel
   by_cases hlt:k < 48
   · have t1:((k:Int) % 16 != 0) = true:=by rw [bne_iff_ne]; omega
     go_wp2_with fail
     go_round
     case rel => exact ⟨k + 1,by omega,by omega,by go_num⟩
     case measure => simp [intOf]; omega
   · obtain rfl:k = 48:=by omega
     go_wp2_with fail
     go_ret
     exact ⟨rfl,rfl⟩
theorem rtot_64 (l:ByteArray) (c1:Ret 63 #[.string l] (.int .i64 64)):Ret 43 #[.string l] (.int .i64 80):=by
 intro w
 go_enter Tryz.func43,Tryz.ntmps43
 go_wp2_with fail
 repeat (with_reducible refine c1.calls ?_; try go_wp2_with fail)
 go_loop [3] (fun i => ∃ k:Nat,64 + 2 <= k /\ k <= 80 /\ i = .int .i64 (k:Int)) (fun i => 80 - (intOf i).toNat)
 case atStart => exact ⟨64 + 2,by omega,by omega,rfl⟩
 case round =>
   obtain ⟨k,hk0,hk,rfl⟩:=hrel
   by_cases hlt:k < 80
   · have t1:((k:Int) % 16 != 0) = true:=by rw [bne_iff_ne]; omega
     go_wp2_with fail
     go_round
     case rel => exact ⟨k + 1,by omega,by omega,by go_num⟩
     case measure => simp [intOf]; omega
   · obtain rfl:k = 80:=by omega
     go_wp2_with fail
     go_ret
     exact ⟨rfl,rfl⟩
theorem rtot_66 (l:ByteArray) (c1:Ret 63 #[.string l] (.int .i64 66)):Ret 43 #[.string l] (.int .i64 80):=by
 intro w
 go_enter Tryz.func43,Tryz.ntmps43
 go_wp2_with fail
 repeat (with_reducible refine c1.calls ?_; try go_wp2_with fail)
 go_loop [3] (fun i => ∃ k:Nat,66 + 2 <= k /\ k <= 80 /\ i = .int .i64 (k:Int)) (fun i => 80 - (intOf i).toNat)
 case atStart => exact ⟨66 + 2,by omega,by omega,rfl⟩
 case round =>
   obtain ⟨k,hk0,hk,rfl⟩:=hrel
   by_cases hlt:k < 80
   · have t1:((k:Int) % 16 != 0) = true:=by rw [bne_iff_ne]; omega
     go_wp2_with fail
     go_round
     case rel => exact ⟨k + 1,by omega,by omega,by go_num⟩
     case measure => simp [intOf]; omega
   · obtain rfl:k = 80:=by omega
     go_wp2_with fail
     go_ret
     exact ⟨rfl,rfl⟩
theorem rtotal_ret (l:ByteArray) (X:Int) (hX:X = tot (Kind.mostN l.data.toList)):Ret 43 #[.string l] (.int .i64 X):=by
 subst hX
 have c1:=Kind.rmost_ret l _ rfl
 rcases most_vals l.data.toList with h | h | h | h | h
 all_goals rw [h] at c1 ⊢
 · exact rtot_0 l c1
 · exact rtot_24 l c1
 · exact rtot_32 l c1
 · exact rtot_64 l c1
 · exact rtot_66 l c1
def padsI (r:Kind.Row):Int:=if r.2.1 = 0 then 0 else tot (Kind.mostN r.2.2.1) - 2 - r.2.1
theorem pads_0 (no:Int) (c1:KMk Tab2 53 #[.int .i64 no] (.int .i64 0)):KMk Tab2 25 #[.int .i64 no] (.int .i64 0):=by
 intro w hT
 have HS:=lH (Since.refl w)
 have HT:=lH hT
 clear hT
 go_enter Tryz.func25,Tryz.ntmps25
 go_wp2_with fail
 repeat (with_reducible refine c1.calls0 HT.out ?_; intro wz hz; replace HT:=lH (Kp.keep HT.out hz); replace HS:=lH (HS.out.step hz); clear hz; try go_wp2_with fail)
 go_ret
 exact ⟨rfl,HS.out⟩
theorem pads_l (no n t:Int) (l:ByteArray) (hn:(n == 0) = false) (h0:0 <= n /\ n <= 100) (h1:0 <= t /\ t <= 100) (c1:KMk Tab2 53 #[.int .i64 no] (.int .i64 n)) (c2:KMk Tab2 42 #[.int .i64 no] (.string l)) (c3:KMk Tab2 41 #[.string l] (.int .i64 t)):KMk Tab2 25 #[.int .i64 no] (.int .i64 (t - 2 - n)):=by
 intro w hT
 have HS:=lH (Since.refl w)
 have HT:=lH hT
 have e1:IntKind.i64.wrap (t - 2) = t - 2:=IntWalk.i64_in _ (by omega)
 have e2:IntKind.i64.wrap (t - 2 - n) = t - 2 - n:=IntWalk.i64_in _ (by omega)
 clear hT
 go_enter Tryz.func25,Tryz.ntmps25
 go_wp2_with fail
 repeat ((first | with_reducible refine c1.calls0 HT.out ?_ | with_reducible refine c2.calls0 HT.out ?_ | with_reducible refine c3.calls0 HT.out ?_); intro wz hz; replace HT:=lH (Kp.keep HT.out hz); replace HS:=lH (HS.out.step hz); clear hz; try go_wp2_with fail)
 go_ret
 exact ⟨rfl,HS.out⟩
theorem rpads_0 (no:Int) (c1:Ret 50 #[.int .i64 no] (.int .i64 0)):Ret 18 #[.int .i64 no] (.int .i64 0):=by
 intro w
 go_enter Tryz.func18,Tryz.ntmps18
 go_wp2_with fail
 repeat (with_reducible refine c1.calls ?_; try go_wp2_with fail)
 go_ret
 exact ⟨rfl,rfl⟩
theorem rpads_l (no n t:Int) (l:ByteArray) (hn:(n == 0) = false) (h0:0 <= n /\ n <= 100) (h1:0 <= t /\ t <= 100) (c1:Ret 50 #[.int .i64 no] (.int .i64 n)) (c2:Ret 17 #[.int .i64 no] (.string l)) (c3:Ret 43 #[.string l] (.int .i64 t)):Ret 18 #[.int .i64 no] (.int .i64 (t - 2 - n)):=by
 intro w
 have e1:IntKind.i64.wrap (t - 2) = t - 2:=IntWalk.i64_in _ (by omega)
 have e2:IntKind.i64.wrap (t - 2 - n) = t - 2 - n:=IntWalk.i64_in _ (by omega)
 go_enter Tryz.func18,Tryz.ntmps18
 go_wp2_with fail
 repeat ((first | with_reducible refine c1.calls ?_ | with_reducible refine c2.calls ?_ | with_reducible refine c3.calls ?_); try go_wp2_with fail)
 go_ret
 exact ⟨rfl,rfl⟩
theorem row_size (no:Int):0 <= (Kind.rowOf no).2.1 /\ (Kind.rowOf no).2.1 <= 100:=by
 unfold Kind.rowOf
 split
 · have hall:∀ r ∈ Kind.rows,0 <= r.2.1 /\ r.2.1 <= 100:=by decide +kernel
   cases hr:Kind.rows[(no - 1).toNat]? with
   | none => exact ⟨Int.le_refl 0,by decide⟩
   | some r => exact hall r (List.mem_of_getElem? hr)
 · exact ⟨Int.le_refl 0,by decide⟩
theorem tot_bounds (l:List UInt8):0 <= tot (Kind.mostN l) /\ tot (Kind.mostN l) <= 100:=by
 rcases most_vals l with h | h | h | h | h <;> rw [h] <;> decide
theorem pads_k (no X:Int) (hX:X = padsI (Kind.rowOf no)):KMk Tab2 25 #[.int .i64 no] (.int .i64 X):=by
 subst hX
 have c1:=KMk.t2 (Kind.size_k no _ rfl)
 unfold padsI
 by_cases h:(Kind.rowOf no).2.1 = 0
 · rw [if_pos h]; rw [h] at c1; exact pads_0 no c1
 · rw [if_neg h]
   have c3:=total_k (bs (Kind.rowOf no).2.2.1) _ rfl
   rw [list_bs] at c3
   exact pads_l no _ _ _ (beq_eq_false_iff_ne.2 h) (row_size no) (tot_bounds _) c1 (KMk.t2 (Kind.letter_k no _ rfl)) c3
theorem rpads_ret (no X:Int) (hX:X = padsI (Kind.rowOf no)):Ret 18 #[.int .i64 no] (.int .i64 X):=by
 subst hX
 have c1:=Kind.rsize_ret no _ rfl
 unfold padsI
 by_cases h:(Kind.rowOf no).2.1 = 0
 · rw [if_pos h]; rw [h] at c1; exact rpads_0 no c1
 · rw [if_neg h]
   have c3:=rtotal_ret (bs (Kind.rowOf no).2.2.1) _ rfl
   rw [list_bs] at c3
   exact rpads_l no _ _ _ (beq_eq_false_iff_ne.2 h) (row_size no) (tot_bounds _) c1 (Kind.rletter_ret no _ rfl) c3
end Load
namespace Load
open Kind (Tab2)
open Kind
theorem make_ok (no:Int) (key pads P X:ByteArray) (hk:key.size <= 100000) (hX:X = bs (Oct.cat [P,key,pads])) (hm:X.size <= 140737488355328) (c1:KMk Tab2 55 #[.int .i64 no,.string key] (.int .i64 0)) (c2:KMk Tab2 25 #[.int .i64 no] (.int .i64 (pads.size:Int))) (c3:Mak 57 #[.int .u64 (8 * (key.size:Int)),.int .i64 2] (.string P)):KMk Tab2 27 #[.int .i64 no,.string key,.string pads] (.tuple #[.string X,.int .i64 0]):=by
 intro w hT
 have HS:=lH (Since.refl w)
 have HT:=lH hT
 have e1:IntKind.i64.wrap (8 * (key.size:Int)) = 8 * (key.size:Int):=IntWalk.i64_in _ (by omega)
 have e2:IntKind.u64.wrap (8 * (key.size:Int)) = 8 * (key.size:Int):=IntWalk.u64_in _ (by omega)
 have HJ:=lH (fun W => Oct.join_lit W [P,key,pads] 3 rfl #[.string P,.string key,.string pads] rfl X hX hm (by decide))
 clear hT hX
 go_enter Tryz.func27,Tryz.ntmps27
 go_wp2_with fail
 repeat ((first | with_reducible refine c1.calls0 HT.out ?_ | with_reducible refine c2.calls0 HT.out ?_ | with_reducible refine c3.calls0 ?_); intro wz hz; replace HT:=lH (Kp.keep HT.out hz); replace HS:=lH (HS.out.step hz); clear hz; try go_wp2_with fail)
 refine (HJ.out _).mono ?_
 rintro e w4 ⟨rfl,h4⟩
 have HS4:=lH (Since.step HS.out h4)
 clear h4
 go_wp2_with fail
 go_ret2
 exact ⟨rfl,HS4.out⟩
theorem rmake_ok (no:Int) (key pads P Q X:ByteArray) (hk:key.size <= 100000) (hp:pads.size <= 100000) (h1:P.size <= 100) (hQ:P ++ key = Q) (hQ2:Q.size <= 100100) (hX:Q ++ pads = X) (c1:Mak 44 #[.int .i64 no,.string key] (.int .i64 0)) (c2:Ret 18 #[.int .i64 no] (.int .i64 (pads.size:Int))) (c3:Mak 62 #[.int .u64 (8 * (key.size:Int)),.int .i64 2] (.string P)):Mak 30 #[.int .i64 no,.string key,.string pads] (.tuple #[.string X,.int .i64 0]):=by
 intro w
 have HS:=lH (Since.refl w)
 have e1:IntKind.i64.wrap (8 * (key.size:Int)) = 8 * (key.size:Int):=IntWalk.i64_in _ (by omega)
 have e2:IntKind.u64.wrap (8 * (key.size:Int)) = 8 * (key.size:Int):=IntWalk.u64_in _ (by omega)
 have f1:¬ 9223372036854775807 < P.size + key.size:=by omega
 have f2:¬ 9223372036854775807 < Q.size + pads.size:=by omega
 go_enter Tryz.func30,Tryz.ntmps30
 go_wp2_with fail
 repeat (first | (with_reducible refine c1.calls HS.out ?_; intro wz hz; replace HS:=lH hz; clear hz; try go_wp2_with fail) | (with_reducible refine c2.calls ?_; try go_wp2_with fail) | (with_reducible refine c3.calls HS.out ?_; intro wz hz; replace HS:=lH hz; clear hz; try go_wp2_with fail))
 go_ret2
 exact ⟨rfl,HS.out⟩
end Load
theorem results_tmp4 {fn:Func} {t u v x:Tmp} (h:fn.results = #[.tmp t,.tmp u,.tmp v,.tmp x]) (tmps:Array Value) (P:Program) (w:World) :
   (results fn tmps).run P w = .ok (.tuple #[tmps.getD t undef,tmps.getD u undef,tmps.getD v undef,tmps.getD x undef]) w:=by
 simp [results,h]
namespace Load
open Kind (Tab2)
open Kind
def no4 (e:Int):Value:=.tuple #[.int .i64 0,.string ⟨#[]⟩,.string ⟨#[]⟩,.int .i64 e]
theorem take_none (l:ByteArray):Ret 36 #[.string l,.string ⟨#[]⟩] (no4 5):=by
 intro w
 go_enter Tryz.func36,Tryz.ntmps36
 go_wp2_with fail
 refine bodyPost_ret (results_tmp4 rfl _ _ _) rfl ?_
 exact ⟨rfl,rfl⟩
theorem take_len (l s:ByteArray) (t:Int) (hs:0 < s.size) (ht:((s.size:Int) != t) = true) (c1:KMk Tab2 41 #[.string l] (.int .i64 t)):KMk Tab2 36 #[.string l,.string s] (no4 5):=by
 intro w hT
 have HS:=lH (Since.refl w)
 have HT:=lH hT
 have b1:=some_bytes s hs
 have b2:=some_bytes_f s hs
 clear hT
 go_enter Tryz.func36,Tryz.ntmps36
 go_wp2_with fail
 repeat (with_reducible refine c1.calls0 HT.out ?_; intro wz hz; replace HT:=lH (Kp.keep HT.out hz); replace HS:=lH (HS.out.step hz); clear hz; try go_wp2_with fail)
 refine bodyPost_ret (results_tmp4 rfl _ _ _) rfl ?_
 exact ⟨rfl,HS.out⟩
theorem take_bits (l s h:ByteArray) (t b:Int) (hs:2 <= s.size) (hm:s.size <= 1000) (ht:((s.size:Int) != t) = false) (hh:s.extract 0 2 = h) (hb:0 <= b /\ b <= 65535) (h8:(b % 8 != 0) = true) (c1:KMk Tab2 41 #[.string l] (.int .i64 t)) (c2:Mak 75 #[.string h] (.tuple #[.int .u64 b,.bool true])):KMk Tab2 36 #[.string l,.string s] (no4 5):=by
 intro w hT
 have HS:=lH (Since.refl w)
 have HT:=lH hT
 have b1:=some_bytes s (by omega)
 have b2:=some_bytes_f s (by omega)
 have i1:(2:Int) <= (s.size:Int):=by omega
 have e1:IntKind.i64.wrap (b / 8) = b / 8:=IntWalk.i64_in _ (by omega)
 have e2:IntKind.u64.wrap (b / 8) = b / 8:=IntWalk.u64_in _ (by omega)
 have e3:IntKind.u64.wrap (b % 8) = b % 8:=IntWalk.u64_in _ (by omega)
 clear hT
 go_enter Tryz.func36,Tryz.ntmps36
 go_wp2_with fail
 repeat ((first | with_reducible refine c1.calls0 HT.out ?_ | with_reducible refine c2.calls0 ?_); intro wz hz; replace HT:=lH (Kp.keep HT.out hz); replace HS:=lH (HS.out.step hz); clear hz; try go_wp2_with fail)
 refine bodyPost_ret (results_tmp4 rfl _ _ _) rfl ?_
 exact ⟨rfl,HS.out⟩
theorem take_long (l s h:ByteArray) (t b:Int) (n:Nat) (hs:2 <= s.size) (hm:s.size <= 1000) (ht:((s.size:Int) != t) = false) (hh:s.extract 0 2 = h) (hb:0 <= b /\ b <= 65535) (h8:(b % 8 != 0) = false) (hn:b / 8 = (n:Int)) (hn9:n <= 10000) (hl:decide ((s.size:Int) - 2 < (n:Int)) = true) (c1:KMk Tab2 41 #[.string l] (.int .i64 t)) (c2:Mak 75 #[.string h] (.tuple #[.int .u64 b,.bool true])):KMk Tab2 36 #[.string l,.string s] (no4 5):=by
 intro w hT
 have HS:=lH (Since.refl w)
 have HT:=lH hT
 have b1:=some_bytes s (by omega)
 have b2:=some_bytes_f s (by omega)
 have i1:(2:Int) <= (s.size:Int):=by omega
 have e0:IntKind.i64.wrap (n:Int) = (n:Int):=IntWalk.i64_in _ (by omega)
 have e2:IntKind.u64.wrap (n:Int) = (n:Int):=IntWalk.u64_in _ (by omega)
 have e4:IntKind.i64.wrap ((s.size:Int) - 2) = (s.size:Int) - 2:=IntWalk.i64_in _ (by omega)
 clear hT
 go_enter Tryz.func36,Tryz.ntmps36
 go_wp2_with fail
 repeat ((first | with_reducible refine c1.calls0 HT.out ?_ | with_reducible refine c2.calls0 ?_); intro wz hz; replace HT:=lH (Kp.keep HT.out hz); replace HS:=lH (HS.out.step hz); clear hz; try go_wp2_with fail)
 refine bodyPost_ret (results_tmp4 rfl _ _ _) rfl ?_
 exact ⟨rfl,HS.out⟩
theorem take_kind (l s h:ByteArray) (t b:Int) (n:Nat) (hs:2 <= s.size) (hm:s.size <= 1000) (ht:((s.size:Int) != t) = false) (hh:s.extract 0 2 = h) (hb:0 <= b /\ b <= 65535) (h8:(b % 8 != 0) = false) (hn:b / 8 = (n:Int)) (hn9:n <= 10000) (hl:decide ((s.size:Int) - 2 < (n:Int)) = false) (c1:KMk Tab2 41 #[.string l] (.int .i64 t)) (c2:Mak 75 #[.string h] (.tuple #[.int .u64 b,.bool true])) (c3:KMk Tab2 76 #[.string l,.int .i64 (n:Int)] (.tuple #[.int .i64 0,.bool false])):KMk Tab2 36 #[.string l,.string s] (no4 8):=by
 intro w hT
 have HS:=lH (Since.refl w)
 have HT:=lH hT
 have b1:=some_bytes s (by omega)
 have b2:=some_bytes_f s (by omega)
 have i1:(2:Int) <= (s.size:Int):=by omega
 have e0:IntKind.i64.wrap (n:Int) = (n:Int):=IntWalk.i64_in _ (by omega)
 have e2:IntKind.u64.wrap (n:Int) = (n:Int):=IntWalk.u64_in _ (by omega)
 have e4:IntKind.i64.wrap ((s.size:Int) - 2) = (s.size:Int) - 2:=IntWalk.i64_in _ (by omega)
 clear hT
 go_enter Tryz.func36,Tryz.ntmps36
 go_wp2_with fail
 repeat ((first | with_reducible refine c1.calls0 HT.out ?_ | with_reducible refine c2.calls0 ?_ | with_reducible refine c3.calls0 HT.out ?_); intro wz hz; replace HT:=lH (Kp.keep HT.out hz); replace HS:=lH (HS.out.step hz); clear hz; try go_wp2_with fail)
 refine bodyPost_ret (results_tmp4 rfl _ _ _) rfl ?_
 exact ⟨rfl,HS.out⟩
theorem take_err (l s h key pads:ByteArray) (t b k:Int) (n m:Nat) (hs:2 <= s.size) (hm:s.size <= 1000) (ht:((s.size:Int) != t) = false) (hh:s.extract 0 2 = h) (hb:0 <= b /\ b <= 65535) (h8:(b % 8 != 0) = false) (hn:b / 8 = (n:Int)) (hn9:n <= 10000) (hl:decide ((s.size:Int) - 2 < (n:Int)) = false) (hmn:m = n + 2) (hms:m <= s.size) (hk:s.extract 2 m = key) (hp:s.extract m s.size = pads) (c1:KMk Tab2 41 #[.string l] (.int .i64 t)) (c2:Mak 75 #[.string h] (.tuple #[.int .u64 b,.bool true])) (c3:KMk Tab2 76 #[.string l,.int .i64 (n:Int)] (.tuple #[.int .i64 k,.bool true])) (E:Int) (hE:(E != 0) = true) (c4:KMk Tab2 55 #[.int .i64 k,.string key] (.int .i64 E)):KMk Tab2 36 #[.string l,.string s] (no4 E):=by
 intro w hT
 have HS:=lH (Since.refl w)
 have HT:=lH hT
 have b1:=some_bytes s (by omega)
 have b2:=some_bytes_f s (by omega)
 have i1:(2:Int) <= (s.size:Int):=by omega
 have e0:IntKind.i64.wrap (n:Int) = (n:Int):=IntWalk.i64_in _ (by omega)
 have e2:IntKind.u64.wrap (n:Int) = (n:Int):=IntWalk.u64_in _ (by omega)
 have e4:IntKind.i64.wrap ((s.size:Int) - 2) = (s.size:Int) - 2:=IntWalk.i64_in _ (by omega)
 have e5:IntKind.i64.wrap (2 + (n:Int)) = (m:Int):=by rw [IntWalk.i64_in _ (by omega)]; omega
 have i2:(2:Int) <= (m:Int):=by omega
 have i3:(m:Int) <= (s.size:Int):=by omega
 have i4:(0:Int) <= (m:Int):=by omega
 clear hT hmn hms
 go_enter Tryz.func36,Tryz.ntmps36
 go_wp2_with fail
 repeat ((first | with_reducible refine c1.calls0 HT.out ?_ | with_reducible refine c2.calls0 ?_ | with_reducible refine c3.calls0 HT.out ?_); intro wz hz; replace HT:=lH (Kp.keep HT.out hz); replace HS:=lH (HS.out.step hz); clear hz; try go_wp2_with fail)
 go_quiet (fail)
 go_wp2_with fail
 have hdr:Since wz (wz.drewN nq):=⟨rfl,rfl,rfl,Nat.le_refl _,fun _ _ => rfl⟩
 refine c4.calls0 (w:=wz.drewN nq) (Kp.keep HT.out hdr) ?_
 intro w5 h5
 have HS5:=lH (Since.step (Since.step HS.out hdr) h5)
 clear h5
 go_wp2_with fail
 refine bodyPost_ret (results_tmp4 rfl _ _ _) rfl ?_
 exact ⟨rfl,HS5.out⟩
theorem take_ok (l s h key pads:ByteArray) (t b k:Int) (n m:Nat) (hs:2 <= s.size) (hm:s.size <= 1000) (ht:((s.size:Int) != t) = false) (hh:s.extract 0 2 = h) (hb:0 <= b /\ b <= 65535) (h8:(b % 8 != 0) = false) (hn:b / 8 = (n:Int)) (hn9:n <= 10000) (hl:decide ((s.size:Int) - 2 < (n:Int)) = false) (hmn:m = n + 2) (hms:m <= s.size) (hk:s.extract 2 m = key) (hp:s.extract m s.size = pads) (c1:KMk Tab2 41 #[.string l] (.int .i64 t)) (c2:Mak 75 #[.string h] (.tuple #[.int .u64 b,.bool true])) (c3:KMk Tab2 76 #[.string l,.int .i64 (n:Int)] (.tuple #[.int .i64 k,.bool true])) (c4:KMk Tab2 55 #[.int .i64 k,.string key] (.int .i64 0)):KMk Tab2 36 #[.string l,.string s] (.tuple #[.int .i64 k,.string key,.string pads,.int .i64 0]):=by
 intro w hT
 have HS:=lH (Since.refl w)
 have HT:=lH hT
 have b1:=some_bytes s (by omega)
 have b2:=some_bytes_f s (by omega)
 have i1:(2:Int) <= (s.size:Int):=by omega
 have e0:IntKind.i64.wrap (n:Int) = (n:Int):=IntWalk.i64_in _ (by omega)
 have e2:IntKind.u64.wrap (n:Int) = (n:Int):=IntWalk.u64_in _ (by omega)
 have e4:IntKind.i64.wrap ((s.size:Int) - 2) = (s.size:Int) - 2:=IntWalk.i64_in _ (by omega)
 have e5:IntKind.i64.wrap (2 + (n:Int)) = (m:Int):=by rw [IntWalk.i64_in _ (by omega)]; omega
 have i2:(2:Int) <= (m:Int):=by omega
 have i3:(m:Int) <= (s.size:Int):=by omega
 have i4:(0:Int) <= (m:Int):=by omega
 clear hT hmn hms
 go_enter Tryz.func36,Tryz.ntmps36
 go_wp2_with fail
 repeat ((first | with_reducible refine c1.calls0 HT.out ?_ | with_reducible refine c2.calls0 ?_ | with_reducible refine c3.calls0 HT.out ?_); intro wz hz; replace HT:=lH (Kp.keep HT.out hz); replace HS:=lH (HS.out.step hz); clear hz; try go_wp2_with fail)
 go_quiet (fail)
 go_wp2_with fail
 have hdr:Since wz (wz.drewN nq):=⟨rfl,rfl,rfl,Nat.le_refl _,fun _ _ => rfl⟩
 refine c4.calls0 (w:=wz.drewN nq) (Kp.keep HT.out hdr) ?_
 intro w5 h5
 have HS5:=lH (Since.step (Since.step HS.out hdr) h5)
 clear h5
 go_wp2_with fail
 refine bodyPost_ret (results_tmp4 rfl _ _ _) rfl ?_
 exact ⟨rfl,HS5.out⟩
end Load
namespace Load
open Kind (Tab2)
open Kind
theorem rtake_none (l s:ByteArray) (c1:Ret 43 #[.string l] (.int .i64 0)):Mak 39 #[.string l,.string s] (no4 5):=by
 intro w
 have HS:=lH (Since.refl w)
 go_enter Tryz.func39,Tryz.ntmps39
 go_wp2_with fail
 repeat (with_reducible refine c1.calls ?_; try go_wp2_with fail)
 refine bodyPost_ret (results_tmp4 rfl _ _ _) rfl ?_
 exact ⟨rfl,HS.out⟩
theorem rtake_len (l s:ByteArray) (t:Int) (h0:(t == 0) = false) (ht:((s.size:Int) != t) = true) (c1:Ret 43 #[.string l] (.int .i64 t)):Mak 39 #[.string l,.string s] (no4 5):=by
 intro w
 have HS:=lH (Since.refl w)
 go_enter Tryz.func39,Tryz.ntmps39
 go_wp2_with fail
 repeat (with_reducible refine c1.calls ?_; try go_wp2_with fail)
 refine bodyPost_ret (results_tmp4 rfl _ _ _) rfl ?_
 exact ⟨rfl,HS.out⟩
theorem Since_drewN {W0 w:World} (h:Since W0 w) (q:Nat):Since W0 (w.drewN q):=Since.step h ⟨rfl,rfl,rfl,Nat.le_refl _,fun _ _ => rfl⟩
theorem rtake_bits (l s:ByteArray) (t b:Int) (n:Nat) (hs:2 <= s.size) (hm:s.size <= 1000) (h0:(t == 0) = false) (ht:((s.size:Int) != t) = false) (hb:(256:Int) * (s[0].toNat:Int) + (s[1].toNat:Int) = b) (hb9:0 <= b /\ b <= 65535) (_hn:b / 8 = (n:Int)) (hn9:n <= 10000) (h8:(b % 8 != 0) = true) (c1:Ret 43 #[.string l] (.int .i64 t)):Mak 39 #[.string l,.string s] (no4 5):=by
 intro w
 have HS:=lH (Since.refl w)
 have h2:1 < s.size:=by omega
 have h1:0 < s.size:=by omega
 have i0:(0:Int) < (s.size:Int):=by omega
 have i1:(1:Int) < (s.size:Int):=by omega
 have x0:=s[0].toNat_lt
 have x1:=s[1].toNat_lt
 have e1:IntKind.i64.wrap ((256:Int) * (s[0].toNat:Int)) = (256:Int) * (s[0].toNat:Int):=IntWalk.i64_in _ (by omega)
 have e2:IntKind.i64.wrap ((256:Int) * (s[0].toNat:Int) + (s[1].toNat:Int)) = b:=by rw [IntWalk.i64_in _ (by omega)]; exact hb
 have e0:IntKind.i64.wrap (s[0].toNat:Int) = (s[0].toNat:Int):=IntWalk.i64_in _ (by omega)
 have e9:IntKind.i64.wrap (s[1].toNat:Int) = (s[1].toNat:Int):=IntWalk.i64_in _ (by omega)
 clear hb
 have e4:IntKind.i64.wrap ((s.size:Int) - 2) = (s.size:Int) - 2:=IntWalk.i64_in _ (by omega)
 have e7:IntKind.i64.wrap (n:Int) = (n:Int):=IntWalk.i64_in _ (by omega)
 go_enter Tryz.func39,Tryz.ntmps39
 go_wp2_with fail
 repeat (with_reducible refine c1.calls ?_; try go_wp2_with fail)
 go_quiet (fail)
 go_wp2_with fail
 refine bodyPost_ret (results_tmp4 rfl _ _ _) rfl ?_
 exact ⟨rfl,Since_drewN HS.out _⟩
theorem rtake_long (l s:ByteArray) (t b:Int) (n:Nat) (hs:2 <= s.size) (hm:s.size <= 1000) (h0:(t == 0) = false) (ht:((s.size:Int) != t) = false) (hb:(256:Int) * (s[0].toNat:Int) + (s[1].toNat:Int) = b) (hb9:0 <= b /\ b <= 65535) (hn:b / 8 = (n:Int)) (hn9:n <= 10000) (h8:(b % 8 != 0) = false) (hl:decide ((s.size:Int) - 2 < (n:Int)) = true) (c1:Ret 43 #[.string l] (.int .i64 t)):Mak 39 #[.string l,.string s] (no4 5):=by
 intro w
 have HS:=lH (Since.refl w)
 have h2:1 < s.size:=by omega
 have h1:0 < s.size:=by omega
 have i0:(0:Int) < (s.size:Int):=by omega
 have i1:(1:Int) < (s.size:Int):=by omega
 have x0:=s[0].toNat_lt
 have x1:=s[1].toNat_lt
 have e1:IntKind.i64.wrap ((256:Int) * (s[0].toNat:Int)) = (256:Int) * (s[0].toNat:Int):=IntWalk.i64_in _ (by omega)
 have e2:IntKind.i64.wrap ((256:Int) * (s[0].toNat:Int) + (s[1].toNat:Int)) = b:=by rw [IntWalk.i64_in _ (by omega)]; exact hb
 have e0:IntKind.i64.wrap (s[0].toNat:Int) = (s[0].toNat:Int):=IntWalk.i64_in _ (by omega)
 have e9:IntKind.i64.wrap (s[1].toNat:Int) = (s[1].toNat:Int):=IntWalk.i64_in _ (by omega)
 clear hb
 have e4:IntKind.i64.wrap ((s.size:Int) - 2) = (s.size:Int) - 2:=IntWalk.i64_in _ (by omega)
 have e7:IntKind.i64.wrap (n:Int) = (n:Int):=IntWalk.i64_in _ (by omega)
 go_enter Tryz.func39,Tryz.ntmps39
 go_wp2_with fail
 repeat (with_reducible refine c1.calls ?_; try go_wp2_with fail)
 go_quiet (fail)
 go_wp2_with fail
 refine bodyPost_ret (results_tmp4 rfl _ _ _) rfl ?_
 exact ⟨rfl,Since_drewN HS.out _⟩
theorem rtake_kind (l s:ByteArray) (t b:Int) (n:Nat) (hs:2 <= s.size) (hm:s.size <= 1000) (h0:(t == 0) = false) (ht:((s.size:Int) != t) = false) (hb:(256:Int) * (s[0].toNat:Int) + (s[1].toNat:Int) = b) (hb9:0 <= b /\ b <= 65535) (hn:b / 8 = (n:Int)) (hn9:n <= 10000) (h8:(b % 8 != 0) = false) (hl:decide ((s.size:Int) - 2 < (n:Int)) = false) (c2:Ret 83 #[.string l,.int .i64 (n:Int)] (.tuple #[.int .i64 0,.bool false])) (c1:Ret 43 #[.string l] (.int .i64 t)):Mak 39 #[.string l,.string s] (no4 8):=by
 intro w
 have HS:=lH (Since.refl w)
 have h2:1 < s.size:=by omega
 have h1:0 < s.size:=by omega
 have i0:(0:Int) < (s.size:Int):=by omega
 have i1:(1:Int) < (s.size:Int):=by omega
 have x0:=s[0].toNat_lt
 have x1:=s[1].toNat_lt
 have e1:IntKind.i64.wrap ((256:Int) * (s[0].toNat:Int)) = (256:Int) * (s[0].toNat:Int):=IntWalk.i64_in _ (by omega)
 have e2:IntKind.i64.wrap ((256:Int) * (s[0].toNat:Int) + (s[1].toNat:Int)) = b:=by rw [IntWalk.i64_in _ (by omega)]; exact hb
 have e0:IntKind.i64.wrap (s[0].toNat:Int) = (s[0].toNat:Int):=IntWalk.i64_in _ (by omega)
 have e9:IntKind.i64.wrap (s[1].toNat:Int) = (s[1].toNat:Int):=IntWalk.i64_in _ (by omega)
 clear hb
 have e4:IntKind.i64.wrap ((s.size:Int) - 2) = (s.size:Int) - 2:=IntWalk.i64_in _ (by omega)
 have e7:IntKind.i64.wrap (n:Int) = (n:Int):=IntWalk.i64_in _ (by omega)
 go_enter Tryz.func39,Tryz.ntmps39
 go_wp2_with fail
 repeat (with_reducible refine c1.calls ?_; try go_wp2_with fail)
 go_quiet (fail)
 go_wp2_with fail
 replace HS:=lH (Since_drewN HS.out nq)
 repeat (with_reducible refine c2.calls ?_; try go_wp2_with fail)
 refine bodyPost_ret (results_tmp4 rfl _ _ _) rfl ?_
 exact ⟨rfl,HS.out⟩
theorem rtake_err (l s key pads:ByteArray) (t b k:Int) (n m:Nat) (hs:2 <= s.size) (hm:s.size <= 1000) (h0:(t == 0) = false) (ht:((s.size:Int) != t) = false) (hb:(256:Int) * (s[0].toNat:Int) + (s[1].toNat:Int) = b) (hb9:0 <= b /\ b <= 65535) (hn:b / 8 = (n:Int)) (hn9:n <= 10000) (h8:(b % 8 != 0) = false) (hl:decide ((s.size:Int) - 2 < (n:Int)) = false) (hmn:m = n + 2) (hms:m <= s.size) (hk:s.extract 2 m = key) (_hp:s.extract m s.size = pads)
   (c1:Ret 43 #[.string l] (.int .i64 t)) (c2:Ret 83 #[.string l,.int .i64 (n:Int)] (.tuple #[.int .i64 k,.bool true])) (E:Int) (hE:(E != 0) = true) (c3:Mak 44 #[.int .i64 k,.string key] (.int .i64 E)):Mak 39 #[.string l,.string s] (no4 E):=by
 intro w
 have HS:=lH (Since.refl w)
 have h2:1 < s.size:=by omega
 have h1:0 < s.size:=by omega
 have i0:(0:Int) < (s.size:Int):=by omega
 have i1:(1:Int) < (s.size:Int):=by omega
 have x0:=s[0].toNat_lt
 have x1:=s[1].toNat_lt
 have e1:IntKind.i64.wrap ((256:Int) * (s[0].toNat:Int)) = (256:Int) * (s[0].toNat:Int):=IntWalk.i64_in _ (by omega)
 have e2:IntKind.i64.wrap ((256:Int) * (s[0].toNat:Int) + (s[1].toNat:Int)) = b:=by rw [IntWalk.i64_in _ (by omega)]; exact hb
 have e0:IntKind.i64.wrap (s[0].toNat:Int) = (s[0].toNat:Int):=IntWalk.i64_in _ (by omega)
 have e9:IntKind.i64.wrap (s[1].toNat:Int) = (s[1].toNat:Int):=IntWalk.i64_in _ (by omega)
 clear hb
 have e4:IntKind.i64.wrap ((s.size:Int) - 2) = (s.size:Int) - 2:=IntWalk.i64_in _ (by omega)
 have e7:IntKind.i64.wrap (n:Int) = (n:Int):=IntWalk.i64_in _ (by omega)
 have e5:IntKind.i64.wrap (2 + (n:Int)) = (m:Int):=by rw [IntWalk.i64_in _ (by omega)]; omega
 have i2:(2:Int) <= (m:Int):=by omega
 have i3:(m:Int) <= (s.size:Int):=by omega
 have i4:(0:Int) <= (m:Int):=by omega
 clear hmn hms
 go_enter Tryz.func39,Tryz.ntmps39
 go_wp2_with fail
 repeat (with_reducible refine c1.calls ?_; try go_wp2_with fail)
 go_quiet (fail)
 go_wp2_with fail
 replace HS:=lH (Since_drewN HS.out nq)
 repeat (first | (with_reducible refine c2.calls ?_; try go_wp2_with fail) | (with_reducible refine c3.calls HS.out ?_; intro wz hz; replace HS:=lH hz; clear hz; try go_wp2_with fail))
 refine bodyPost_ret (results_tmp4 rfl _ _ _) rfl ?_
 exact ⟨rfl,HS.out⟩
theorem rtake_ok (l s key pads:ByteArray) (t b k:Int) (n m:Nat) (hs:2 <= s.size) (hm:s.size <= 1000) (h0:(t == 0) = false) (ht:((s.size:Int) != t) = false) (hb:(256:Int) * (s[0].toNat:Int) + (s[1].toNat:Int) = b) (hb9:0 <= b /\ b <= 65535) (hn:b / 8 = (n:Int)) (hn9:n <= 10000) (h8:(b % 8 != 0) = false) (hl:decide ((s.size:Int) - 2 < (n:Int)) = false) (hmn:m = n + 2) (hms:m <= s.size) (hk:s.extract 2 m = key) (hp:s.extract m s.size = pads)
   (c1:Ret 43 #[.string l] (.int .i64 t)) (c2:Ret 83 #[.string l,.int .i64 (n:Int)] (.tuple #[.int .i64 k,.bool true])) (c3:Mak 44 #[.int .i64 k,.string key] (.int .i64 0)):Mak 39 #[.string l,.string s] (.tuple #[.int .i64 k,.string key,.string pads,.int .i64 0]):=by
 intro w
 have HS:=lH (Since.refl w)
 have h2:1 < s.size:=by omega
 have h1:0 < s.size:=by omega
 have i0:(0:Int) < (s.size:Int):=by omega
 have i1:(1:Int) < (s.size:Int):=by omega
 have x0:=s[0].toNat_lt
 have x1:=s[1].toNat_lt
 have e1:IntKind.i64.wrap ((256:Int) * (s[0].toNat:Int)) = (256:Int) * (s[0].toNat:Int):=IntWalk.i64_in _ (by omega)
 have e2:IntKind.i64.wrap ((256:Int) * (s[0].toNat:Int) + (s[1].toNat:Int)) = b:=by rw [IntWalk.i64_in _ (by omega)]; exact hb
 have e0:IntKind.i64.wrap (s[0].toNat:Int) = (s[0].toNat:Int):=IntWalk.i64_in _ (by omega)
 have e9:IntKind.i64.wrap (s[1].toNat:Int) = (s[1].toNat:Int):=IntWalk.i64_in _ (by omega)
 clear hb
 have e4:IntKind.i64.wrap ((s.size:Int) - 2) = (s.size:Int) - 2:=IntWalk.i64_in _ (by omega)
 have e7:IntKind.i64.wrap (n:Int) = (n:Int):=IntWalk.i64_in _ (by omega)
 have e5:IntKind.i64.wrap (2 + (n:Int)) = (m:Int):=by rw [IntWalk.i64_in _ (by omega)]; omega
 have i2:(2:Int) <= (m:Int):=by omega
 have i3:(m:Int) <= (s.size:Int):=by omega
 have i4:(0:Int) <= (m:Int):=by omega
 clear hmn hms
 go_enter Tryz.func39,Tryz.ntmps39
 go_wp2_with fail
 repeat (with_reducible refine c1.calls ?_; try go_wp2_with fail)
 go_quiet (fail)
 go_wp2_with fail
 replace HS:=lH (Since_drewN HS.out nq)
 repeat (first | (with_reducible refine c2.calls ?_; try go_wp2_with fail) | (with_reducible refine c3.calls HS.out ?_; intro wz hz; replace HS:=lH hz; clear hz; try go_wp2_with fail))
 go_quiet (fail)
 go_wp2_with fail
 refine bodyPost_ret (results_tmp4 rfl _ _ _) rfl ?_
 exact ⟨rfl,Since_drewN HS.out _⟩
end Load
namespace Load
open Kind (Tab2)
open Kind
def PL (n:Int):ByteArray:=bs (RefOct.low n 2)
def PLD (key pads:ByteArray):ByteArray:=bs (RefOct.low (8 * (key.size:Int)) 2 ++ key.data.toList ++ pads.data.toList)
theorem PL_size (n:Int):(PL n).size = 2:=by unfold PL; rw [size_bs,RefOct.low_len]
theorem put2 (n:Int) (h0:0 <= n) (h1:n <= 100000):Mak 57 #[.int .u64 n,.int .i64 2] (.string (PL n)):=fun w => by
 have h:=Oct.put_mid n 2 w (by omega) (by omega) (by decide) (by decide)
 rw [RefOct.put_same n 2 (by decide)] at h
 exact h
theorem rput2 (n:Int) (h0:0 <= n) (h1:n <= 100000):Mak 62 #[.int .u64 n,.int .i64 2] (.string (PL n)):=fun w => by
 have h:=RefOct.put_mid n 2 w (by omega) (by omega) (by decide) (by decide)
 exact h
theorem pld_cat (key pads:ByteArray):PLD key pads = bs (Oct.cat [PL (8 * (key.size:Int)),key,pads]):=by
 unfold PLD Oct.cat PL; congr 1; simp [list_bs]
theorem pld_app (key pads:ByteArray):PL (8 * (key.size:Int)) ++ key ++ pads = PLD key pads:=by
 apply ba_ext; unfold PLD PL; rw [app_list,app_list,list_bs,list_bs]
theorem pld_size (key pads:ByteArray):(PLD key pads).size = 2 + key.size + pads.size:=by
 unfold PLD; rw [size_bs,List.length_append,List.length_append,RefOct.low_len]; rfl
theorem make_yes (no:Int) (key pads:ByteArray) (hk:key.size <= 300) (hp:pads.size <= 300) (h0:chkE (rowOf no) key.data.toList = 0) (h1:(pads.size:Int) = padsI (rowOf no)) :
   KMk Tab2 27 #[.int .i64 no,.string key,.string pads] (.tuple #[.string (PLD key pads),.int .i64 0]) /\ Mak 30 #[.int .i64 no,.string key,.string pads] (.tuple #[.string (PLD key pads),.int .i64 0]):=by
 have hz:=pld_size key pads
 have c1:=check_k no key (by omega) _ rfl
 have r1:=rcheck_mak no key (by omega) _ rfl
 have c2:=pads_k no _ rfl
 have r2:=rpads_ret no _ rfl
 rw [h0] at c1 r1
 rw [<- h1] at c2 r2
 exact ⟨make_ok no key pads (PL (8 * (key.size:Int))) (PLD key pads) (by omega) (pld_cat key pads) (by omega) c1 c2 (put2 _ (by omega) (by omega)),
   rmake_ok no key pads (PL (8 * (key.size:Int))) (PL (8 * (key.size:Int)) ++ key) (PLD key pads) (by omega) (by omega) (by rw [PL_size]; decide) rfl (by rw [ByteArray.size_append,PL_size]; omega) (pld_app key pads) r1 r2 (rput2 _ (by omega) (by omega))⟩
theorem fnd_row (p:Row -> Bool):∀ (l:List Row) (i:Nat) (k:Int),l = rows.drop i -> fndL p l i = (k,true) -> p (rowOf k) = true:=by
 intro l
 induction l with
 | nil => intro i k _ h; cases h
 | cons r l ih =>
   intro i k hl h
   have hr:rows[i]? = some r:=by
     have:=congrArg (fun l => l[0]?) hl
     simpa using this.symm
   have hl2:l = rows.drop (i + 1):=by
     have:=congrArg List.tail hl
     simpa using this
   unfold fndL at h
   split at h
   · rename_i hp
     obtain ⟨rfl,-⟩:=Prod.mk.inj h
     rw [rowOf_at i r hr]; exact hp
   · exact ih _ _ hl2 h
theorem fnd_none (p:Row -> Bool):∀ (l:List Row) (i:Nat) (k:Int),fndL p l i = (k,false) -> k = 0:=by
 intro l
 induction l with
 | nil => intro i k h; exact (Prod.mk.inj h).1.symm
 | cons r l ih =>
   intro i k h
   unfold fndL at h
   split at h
   · cases h
   · exact ih _ _ h
theorem two (s:ByteArray) (hs:2 <= s.size):∃ a c r,s.data.toList = a :: c :: r /\ s[0] = a /\ s[1] = c:=by
 have hl:s.data.toList.length = s.size:=rfl
 match h:s.data.toList with
 | [] => rw [h] at hl; simp at hl; omega
 | [x] => rw [h] at hl; simp at hl; omega
 | a :: c :: r =>
   refine ⟨a,c,r,rfl, ?_, ?_⟩
   · have:=Oct.getD_at s 0 (by omega); rw [h] at this; exact this.symm
   · have:=Oct.getD_at s 1 (by omega); rw [h] at this; exact this.symm
theorem low2 (a c:UInt8) (b:Int) (hb:(256:Int) * (a.toNat:Int) + (c.toNat:Int) = b):RefOct.low b 2 = [a,c]:=by
 have ha:=a.toNat_lt
 have hc:=c.toNat_lt
 have e1:(b / 2 ^ (8 * 1) % 256).toNat = a.toNat:=by omega
 have e2:(b / 2 ^ (8 * 0) % 256).toNat = c.toNat:=by omega
 show [UInt8.ofNat (b / 2 ^ (8 * 1) % 256).toNat,UInt8.ofNat (b / 2 ^ (8 * 0) % 256).toNat] = [a,c]
 rw [e1,e2]; simp
def takeV (l s:ByteArray) (k:Int) (x p:ByteArray) (E:Int):Prop :=
 (E = 0 /\ chkE (rowOf k) x.data.toList = 0 /\ (p.size:Int) = padsI (rowOf k) /\ s = PLD x p /\ x.size <= s.size /\ p.size <= s.size /\ (rowOf k).2.2.1 = l.data.toList) ∨ ((E != 0) = true /\ k = 0 /\ x = ⟨#[]⟩ /\ p = ⟨#[]⟩)
theorem tot_least (m:Int) (h:tot m ≠ 0):32 <= tot m:=by
 unfold tot at *
 split
 · rename_i h1; rw [if_pos h1] at h; exact absurd rfl h
 · split
   · decide
   · split <;> decide
theorem take_both (l s:ByteArray) (hs:s.size <= 300) :
   ∃ k x p E,KMk Tab2 36 #[.string l,.string s] (.tuple #[.int .i64 k,.string x,.string p,.int .i64 E]) /\ Mak 39 #[.string l,.string s] (.tuple #[.int .i64 k,.string x,.string p,.int .i64 E]) /\ takeV l s k x p E:=by
 have c1:=total_k l _ rfl
 have r1:=rtotal_ret l _ rfl
 have hno:takeV l s 0 ⟨#[]⟩ ⟨#[]⟩ 5:=Or.inr ⟨rfl,rfl,rfl,rfl⟩
 by_cases h1:(s.size:Int) = tot (mostN l.data.toList)
 · by_cases h2:tot (mostN l.data.toList) = 0
   · obtain rfl : s = ⟨#[]⟩ := by apply ba_ext; have : s.data.toList.length = 0 := by show s.size = 0; omega
                                  exact List.length_eq_zero_iff.1 this
     rw [h2] at r1
     exact ⟨_,_,_,_,(take_none l).k,rtake_none l _ r1,hno⟩
   · have h3:=tot_least _ h2
     have hs2:2 <= s.size:=by omega
     obtain ⟨a,c,r,hl,e0,e1⟩:=two s hs2
     have ha:=a.toNat_lt
     have hc:=c.toNat_lt
     obtain ⟨b,hb⟩:∃ b,(256:Int) * (a.toNat:Int) + (c.toNat:Int) = b:=⟨_,rfl⟩
     have hb9:0 <= b /\ b <= 65535:=by omega
     have hb0:(256:Int) * (s[0].toNat:Int) + (s[1].toNat:Int) = b:=by rw [e0,e1]; exact hb
     have hx2:(s.extract 0 2).data.toList = [a,c]:=by rw [ext_list,hl]; rfl
     have cg:Mak 75 #[.string (s.extract 0 2)] (.tuple #[.int .u64 b,.bool true]):=by
       have hz:(s.extract 0 2).size = 2:=by show (s.extract 0 2).data.toList.length = 2; rw [hx2]; rfl
       have h:Ret 75 #[.string (s.extract 0 2)] (.tuple #[.int .u64 (Oct.numN (s.extract 0 2).data.toList:Nat),.bool true]):=fun w => Oct.get_in (s.extract 0 2) w (by omega) (by omega)
       rw [hx2] at h
       have e:((Oct.numN [a,c]:Nat):Int) = b:=by show (((0 * 256 + a.toNat) * 256 + c.toNat:Nat):Int) = b; omega
       rw [e] at h
       exact h.mak
     have ht:((s.size:Int) != tot (mostN l.data.toList)) = false:=bne_eq_false_iff_eq.2 h1
     have h0:(tot (mostN l.data.toList) == 0) = false:=beq_eq_false_iff_ne.2 h2
     by_cases h8:b % 8 = 0
     · obtain ⟨n,hn⟩:∃ n:Nat,b / 8 = (n:Int):=⟨(b / 8).toNat,by omega⟩
       have h8f:(b % 8 != 0) = false:=bne_eq_false_iff_eq.2 h8
       by_cases hlg:(s.size:Int) - 2 < (n:Int)
       · exact ⟨_,_,_,_,take_long l s _ _ b n hs2 (by omega) ht rfl hb9 h8f hn (by omega) (decide_eq_true hlg) c1 cg,
           rtake_long l s _ b n hs2 (by omega) h0 ht hb0 hb9 hn (by omega) h8f (decide_eq_true hlg) r1,hno⟩
       · have hlf:=decide_eq_false hlg
         obtain ⟨⟨k,q⟩,hkq⟩:∃ kq,fndL (wants l.data.toList (n:Int)) rows 0 = kq:=⟨_,rfl⟩
         have c3:=KMk.t2 (of_k l n k q hkq)
         have r3:=rof_ret l n k q hkq
         cases q with
         | false =>
           obtain rfl:=fnd_none _ _ _ _ hkq
           exact ⟨_,_,_,_,take_kind l s _ _ b n hs2 (by omega) ht rfl hb9 h8f hn (by omega) hlf c1 cg c3,
             rtake_kind l s _ b n hs2 (by omega) h0 ht hb0 hb9 hn (by omega) h8f hlf r3 r1,Or.inr ⟨rfl,rfl,rfl,rfl⟩⟩
         | true =>
           have hw:=fnd_row _ rows 0 k rfl hkq
           unfold wants at hw
           rw [Bool.and_eq_true,beq_iff_eq,beq_iff_eq] at hw
           obtain ⟨m,hm⟩:∃ m,m = n + 2:=⟨_,rfl⟩
           have hms:m <= s.size:=by omega
           obtain ⟨key,hkey⟩:∃ key,s.extract 2 m = key:=⟨_,rfl⟩
           obtain ⟨pads,hpads⟩:∃ pads,s.extract m s.size = pads:=⟨_,rfl⟩
           have hkl:key.data.toList = (s.data.toList.drop 2).take n:=by rw [<- hkey,ext_list]; congr 1; omega
           have hpl:pads.data.toList = s.data.toList.drop m:=by
             rw [<- hpads,ext_list,List.take_of_length_le]
             rw [List.length_drop]; exact Nat.le_refl _
           have hlen:s.data.toList.length = s.size:=rfl
           have hks:key.size = n:=by show key.data.toList.length = n; rw [hkl,List.length_take,List.length_drop]; omega
           have hps:pads.size = s.size - m:=by show pads.data.toList.length = _; rw [hpl,List.length_drop]; omega
           have c4:=check_k k key (by omega) _ rfl
           have r4:=rcheck_mak k key (by omega) _ rfl
           by_cases hE:chkE (rowOf k) key.data.toList = 0
           · rw [hE] at c4 r4
             refine ⟨_,_,_,_,take_ok l s _ key pads _ b k n m hs2 (by omega) ht rfl hb9 h8f hn (by omega) hlf hm hms hkey hpads c1 cg c3 c4,
               rtake_ok l s key pads _ b k n m hs2 (by omega) h0 ht hb0 hb9 hn (by omega) h8f hlf hm hms hkey hpads r1 r3 r4,Or.inl ⟨rfl,hE, ?_, ?_,by omega,by omega,hw.1⟩⟩
             · unfold padsI
               rw [hw.1,hw.2]
               have hn0:(n:Int) ≠ 0:=by
                 intro h
                 unfold chkE at hE
                 rw [hw.2,if_pos h] at hE
                 cases hE
               rw [if_neg hn0]
               omega
             · apply ba_ext
               unfold PLD
               rw [list_bs,hkl,hpl,hks,show 8 * (n:Int) = b by omega,low2 a c b hb,hl]
               subst hm
               simp
           · exact ⟨_,_,_,_,take_err l s _ key pads _ b k n m hs2 (by omega) ht rfl hb9 h8f hn (by omega) hlf hm hms hkey hpads c1 cg c3 _ (bne_iff_ne.2 hE) c4,
               rtake_err l s key pads _ b k n m hs2 (by omega) h0 ht hb0 hb9 hn (by omega) h8f hlf hm hms hkey hpads r1 r3 _ (bne_iff_ne.2 hE) r4,Or.inr ⟨bne_iff_ne.2 hE,rfl,rfl,rfl⟩⟩
     · obtain ⟨n,hn⟩:∃ n:Nat,b / 8 = (n:Int):=⟨(b / 8).toNat,by omega⟩
       exact ⟨_,_,_,_,take_bits l s _ _ b hs2 (by omega) ht rfl hb9 (bne_iff_ne.2 h8) c1 cg,rtake_bits l s _ b n hs2 (by omega) h0 ht hb0 hb9 hn (by omega) (bne_iff_ne.2 h8) r1,hno⟩
 · have hpr:KMk Tab2 36 #[.string l,.string s] (no4 5):=by
     by_cases h3:s.size = 0
     · obtain rfl:s = ⟨#[]⟩:=by apply ba_ext; exact List.length_eq_zero_iff.1 h3
       exact (take_none l).k
     · exact take_len l s _ (by omega) (bne_iff_ne.2 h1) c1
   refine ⟨_,_,_,_,hpr, ?_,hno⟩
   by_cases h2:tot (mostN l.data.toList) = 0
   · rw [h2] at r1; exact rtake_none l s r1
   · exact rtake_len l s _ (beq_eq_false_iff_ne.2 h2) (bne_iff_ne.2 h1) r1
end Load
end Go.Proofs.YtddlaafpianjbaaGreatDoor
