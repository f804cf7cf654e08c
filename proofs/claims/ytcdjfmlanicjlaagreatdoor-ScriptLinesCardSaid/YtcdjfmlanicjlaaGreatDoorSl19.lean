import Derived.Test.YtcdjfmlanicjlaaGreatDoorSl18
import Derived.Test.YtcdjfmlanicjlaaGreatDoorSl10
import Derived.Deep.LoopGhost
set_option maxRecDepth 100000
namespace Go.Proofs.YtcdjfmlanicjlaaGreatDoor
open Go.RowKit
namespace Sp
open Cut
theorem sindex_ret (s:ByteArray) (c:UInt8) (p:Int) (hp:Lib.indexByte s.data.toList c = p):Ret 56 #[.string s,.string ⟨#[c]⟩] (.int .i64 p):=by
 intro w
 have c1:=index_ret s c p hp
 go_enter Tryz.func56,Tryz.ntmps56
 go_wp2_with fail
 refine (c1).calls ?_
 go_wp2_with fail
 go_ret
 exact ⟨rfl,rfl⟩
theorem splB_hit (c:UInt8) (k:Nat) (s:ByteArray) (h:c ∈ s.data.toList) (j:Nat) (hj:Lib.indexByte s.data.toList c = (j:Int)):splB c (k + 1) s = s.extract 0 j :: splB c k (s.extract (j + 1) s.size):=by
 rw [splB,if_pos h,hj,Int.toNat_natCast]
theorem splB_miss (c:UInt8) (k:Nat) (s:ByteArray) (h:c ∉ s.data.toList):splB c k s = [s]:=by
 cases k with
 | zero => rfl
 | succ k => rw [splB,if_neg h]
set_option maxHeartbeats 4000000 in
theorem gen_split (s:ByteArray) (c:UInt8) (n N:Nat) (hn:1 <= n) (hm:n <= 1000) (hs:s.size <= 1000000) (hN:N = min n (s.size + 1)) (w:World) :
   Calls Tryz.prog 36 #[.string s,.string ⟨#[c]⟩,.int .i64 0,.int .i64 (n:Int)] w fun e w' =>
     e = .returned (.slice (some ⟨w.heap.size,0,none⟩) (splB c (N - 1) s).length N) /\ w' = w.alloc (.cells (Lib.cellsOf (splB c (N - 1) s) N) 9):=by
 have hne:((n:Int) == 0) = false:=beq_eq_false_iff_ne.2 (by omega)
 have hse:(([c]:List UInt8) == []) = false:=by rfl
 have hneg:decide ((n:Int) < 0) = false:=decide_eq_false (by omega)
 have hmk:=run_make_row' (P:=Tryz.prog) 47 9 (.string ByteArray.empty) 16 Tryz.underlying47 (by kernel_rfl) rfl .i64 .i64 N (by omega) (by omega)
 by_cases h:(n:Int) <= (s.size:Int) + 1
 · obtain rfl:N = n:=by omega
   have hN1:(1:Int) <= (N:Int):=by omega
   clear hN
   go_enter Tryz.func36,Tryz.ntmps36
   go_wp2_with fail
   clear hmk
   go_loopg [0,10] (N - 1) (fun g s0 s10 wr => ∃ (done:List ByteArray) (rest:ByteArray),s0 = .string rest /\ s10 = .int .i64 (done.length:Int) /\ done.length <= N - 1 /\ g = N - 1 - done.length /\ rest.size <= s.size /\
     wr = w.alloc (.cells (Lib.cellsOf done N) 9) /\ Hid (done ++ splB c (N - 1 - done.length) rest = splB c (N - 1) s))
   case atStart => exact ⟨[],s,rfl,rfl,Nat.zero_le _,rfl,Nat.le_refl _,by rw [Lib.cellsOf_nil],lH rfl⟩
   case round =>
     obtain ⟨done,rest,rfl,rfl,hd,rfl,hrs,rfl,HS⟩:=hrel
     have hnext:(Lib.cellsOf done N)[done.length]? = some (.string ByteArray.empty):=Lib.cellsOf_next (by omega)
     have fin:splB c (N - 1 - done.length) rest = [rest] -> (splB c (N - 1) s).length = done.length + 1 /\ (Lib.cellsOf done N).setIfInBounds done.length (.string rest) = Lib.cellsOf (splB c (N - 1) s) N:=fun h => by
       have e:=HS.out
       rw [h] at e
       rw [<- e]
       exact ⟨by simp,Lib.cellsOf_set (by omega) rest⟩
     by_cases hlt:done.length < N - 1
     · have hltz:((done.length:Nat):Int) < (N:Int) - 1:=by omega
       have hlN:done.length < N:=by omega
       by_cases hc:c ∈ rest.data.toList
       · obtain ⟨j,h1,-,-⟩:=at_ex _ c hc
         have hj:=at_index _ c j h1
         have hlj:j < rest.size:=(List.getElem?_eq_some_iff.1 h1.1).1
         have c0:¬ ((j:Int) < 0):=by omega
         have c2:(j:Int) <= (rest.size:Int):=by omega
         have c4:(j:Int) + 1 <= (rest.size:Int):=by omega
         have c1:=sindex_ret rest c (j:Int) hj
         have HH:=lH (splB_hit c (N - 1 - (done.length + 1)) rest hc j hj)
         clear fin hc h1 hj
         go_wp2_with (go_at_call 56; refine (c1 _).mono ?_; rintro _ w9 ⟨rfl,rfl⟩)
         go_roundg (N - 1 - (done.length + 1))
         case measure => omega
         case rel =>
           refine ⟨done ++ [rest.extract 0 j],rest.extract (j + 1) rest.size,rfl,by simp,by simp; omega,by simp,by rw [ByteArray.size_extract]; omega,by rw [<- Lib.cellsOf_set (by omega)], ?_⟩
           refine lH ?_
           rw [<- HS.out,show N - 1 - done.length = (N - 1 - (done.length + 1)) + 1 by omega,HH.out]
           simp
       · have c1:=sindex_ret rest c (-1) (none_index _ c hc)
         obtain ⟨f1,f2⟩:=fin (splB_miss c _ rest hc)
         have F1:=lH f1
         have F2:=lH f2
         clear fin f1 f2 hc
         go_wp2_with (go_at_call 56; refine (c1 _).mono ?_; rintro _ w9 ⟨rfl,rfl⟩)
         go_ret
         rw [F1.out,<- F2.out]
         exact ⟨by first | rfl | (congr 2 <;> omega),rfl⟩
     · have hltz:¬ (((done.length:Nat):Int) < (N:Int) - 1):=by omega
       have hlN:done.length < N:=by omega
       obtain ⟨f1,f2⟩:=fin (by rw [show N - 1 - done.length = 0 by omega]; rfl)
       have F1:=lH f1
       have F2:=lH f2
       clear fin f1 f2
       go_wp2_with fail
       go_ret
       rw [F1.out,<- F2.out]
       exact ⟨by first | rfl | (congr 2 <;> omega),rfl⟩
 · have eN:(N:Int) = (s.size:Int) + 1:=by omega
   rw [eN] at hmk
   have hN1:(1:Int) <= (N:Int):=by omega
   clear hN
   go_enter Tryz.func36,Tryz.ntmps36
   go_wp2_with fail
   clear hmk
   go_loopg [0,10] (N - 1) (fun g s0 s10 wr => ∃ (done:List ByteArray) (rest:ByteArray),s0 = .string rest /\ s10 = .int .i64 (done.length:Int) /\ done.length <= N - 1 /\ g = N - 1 - done.length /\ rest.size <= s.size /\
     wr = w.alloc (.cells (Lib.cellsOf done N) 9) /\ Hid (done ++ splB c (N - 1 - done.length) rest = splB c (N - 1) s))
   case atStart => exact ⟨[],s,rfl,rfl,Nat.zero_le _,rfl,Nat.le_refl _,by rw [Lib.cellsOf_nil],lH rfl⟩
   case round =>
     obtain ⟨done,rest,rfl,rfl,hd,rfl,hrs,rfl,HS⟩:=hrel
     have hnext:(Lib.cellsOf done N)[done.length]? = some (.string ByteArray.empty):=Lib.cellsOf_next (by omega)
     have fin:splB c (N - 1 - done.length) rest = [rest] -> (splB c (N - 1) s).length = done.length + 1 /\ (Lib.cellsOf done N).setIfInBounds done.length (.string rest) = Lib.cellsOf (splB c (N - 1) s) N:=fun h => by
       have e:=HS.out
       rw [h] at e
       rw [<- e]
       exact ⟨by simp,Lib.cellsOf_set (by omega) rest⟩
     by_cases hlt:done.length < N - 1
     · have hltz:((done.length:Nat):Int) < (N:Int) - 1:=by omega
       have hlN:done.length < N:=by omega
       by_cases hc:c ∈ rest.data.toList
       · obtain ⟨j,h1,-,-⟩:=at_ex _ c hc
         have hj:=at_index _ c j h1
         have hlj:j < rest.size:=(List.getElem?_eq_some_iff.1 h1.1).1
         have c0:¬ ((j:Int) < 0):=by omega
         have c2:(j:Int) <= (rest.size:Int):=by omega
         have c4:(j:Int) + 1 <= (rest.size:Int):=by omega
         have c1:=sindex_ret rest c (j:Int) hj
         have HH:=lH (splB_hit c (N - 1 - (done.length + 1)) rest hc j hj)
         clear fin hc h1 hj
         go_wp2_with (go_at_call 56; refine (c1 _).mono ?_; rintro _ w9 ⟨rfl,rfl⟩)
         go_roundg (N - 1 - (done.length + 1))
         case measure => omega
         case rel =>
           refine ⟨done ++ [rest.extract 0 j],rest.extract (j + 1) rest.size,rfl,by simp,by simp; omega,by simp,by rw [ByteArray.size_extract]; omega,by rw [<- Lib.cellsOf_set (by omega)], ?_⟩
           refine lH ?_
           rw [<- HS.out,show N - 1 - done.length = (N - 1 - (done.length + 1)) + 1 by omega,HH.out]
           simp
       · have c1:=sindex_ret rest c (-1) (none_index _ c hc)
         obtain ⟨f1,f2⟩:=fin (splB_miss c _ rest hc)
         have F1:=lH f1
         have F2:=lH f2
         clear fin f1 f2 hc
         go_wp2_with (go_at_call 56; refine (c1 _).mono ?_; rintro _ w9 ⟨rfl,rfl⟩)
         go_ret
         rw [F1.out,<- F2.out]
         exact ⟨by first | rfl | (congr 2 <;> omega),rfl⟩
     · have hltz:¬ (((done.length:Nat):Int) < (N:Int) - 1):=by omega
       have hlN:done.length < N:=by omega
       obtain ⟨f1,f2⟩:=fin (by rw [show N - 1 - done.length = 0 by omega]; rfl)
       have F1:=lH f1
       have F2:=lH f2
       clear fin f1 f2
       go_wp2_with fail
       go_ret
       rw [F1.out,<- F2.out]
       exact ⟨by first | rfl | (congr 2 <;> omega),rfl⟩
theorem pcs_len (c:UInt8) (l:List UInt8):(pcs c l).length <= l.length + 1:=by
 induction l with
 | nil => exact Nat.le_refl _
 | cons x l ih =>
   rw [pcs]
   split
   · rw [List.length_cons,List.length_cons]; omega
   · split
     · rename_i hp; exact absurd hp (pcs_ne c l)
     · rename_i v vs hv
       rw [hv,List.length_cons] at ih
       rw [List.length_cons,List.length_cons]; omega
theorem cells_strs (w:World) (L:List ByteArray) (N:Nat) (h:L.length <= N) (hN:N <= 1000):StrsS (w.alloc (.cells (Lib.cellsOf L N) 9)) (.slice (some ⟨w.heap.size,0,none⟩) L.length N) L:=by
 refine ⟨by simp,_,_,rfl,h,by unfold maxLen; omega,Or.inr ⟨w.heap.size,0,rfl,by simp,fun i u hu => ?_⟩⟩
 rw [World.cell?_alloc_new,Nat.zero_add]
 unfold Lib.cellsOf
 have hi:=(List.getElem?_eq_some_iff.1 hu).1
 rw [List.getElem?_toArray,List.getElem?_append_left hi]
 exact hu
theorem splitN_mk (s:ByteArray) (c:UInt8) (n:Nat) (hn:1 <= n) (hm:n <= 1000) (hs:s.size <= 1000000) (w:World) :
   Calls Tryz.prog 20 #[.string s,.string ⟨#[c]⟩,.int .i64 (n:Int)] w fun e w' => ∃ N L,e = .returned (.slice (some ⟨w.heap.size,0,none⟩) L.length N) /\ StrsS w' (.slice (some ⟨w.heap.size,0,none⟩) L.length N) L /\ L.map (·.data.toList) = splN c n s.data.toList /\ (∀ x ∈ L,x.size <= s.size) /\ Since w w':=by
 obtain ⟨N,hN⟩:∃ N,N = min n (s.size + 1):=⟨_,rfl⟩
 have c1:=gen_split s c n N hn hm hs hN
 have hl:=splB_len c (N - 1) s
 have hL:(splB c (N - 1) s).map (·.data.toList) = splN c n s.data.toList:=by
   rw [splB_list,show N - 1 + 1 = N by omega]
   by_cases h:n <= s.size + 1
   · rw [show N = n by omega]
   · have h1:=pcs_len c s.data.toList
     have hz:s.data.toList.length = s.size:=rfl
     rw [splN_all c N _ (by omega),splN_all c n _ (by omega)]
 have HL:=lH hL
 have HZ:=lH (splB_le c (N - 1) s)
 have HS:=lH ((Since.refl w).alloc (.cells (Lib.cellsOf (splB c (N - 1) s) N) 9))
 have HV:=lH (cells_strs w (splB c (N - 1) s) N (by omega) (by omega))
 clear hL hl hN
 go_enter Tryz.func20,Tryz.ntmps20
 go_wp2_with fail
 refine (c1 _).mono ?_
 rintro _ _ ⟨rfl,rfl⟩
 go_wp2_with fail
 go_ret
 exact ⟨_,_,rfl,HV.out,HL.out,HZ.out,HS.out⟩
end Sp
end Go.Proofs.YtcdjfmlanicjlaaGreatDoor
