import Derived.Test.YtagmgldibjjeeaaDoorPq19
import Derived.Test.YtagmgldibjjeeaaDoorPq14
import Derived.Test.YtagmgldibjjeeaaDoorPq1
set_option maxRecDepth 100000
namespace Go.Proofs.YtagmgldibjjeeaaDoor
open Go.RowKit
namespace Pm
def okR (r:Nat):Bool:=(decide (65 <= r) && decide (r <= 90)) || (decide (48 <= r) && decide (r <= 57)) || decide (r = 32)
theorem okR_c (c:UInt8):okR c.toNat = okC c:=rfl
theorem okR_hi (r:Nat) (h:128 <= r):okR r = false:=by
 unfold okR
 rw [decide_eq_false (show ¬ r <= 90 by omega),decide_eq_false (show ¬ r <= 57 by omega),decide_eq_false (show ¬ r = 32 by omega)]
 simp
theorem left_le (c:UInt8) (l:List UInt8):(Trim.left c l).length <= l.length:=(List.dropWhile_sublist _).length_le
theorem right_le (c:UInt8) (l:List UInt8):(Trim.right c l).length <= l.length:=by
 unfold Trim.right
 rw [List.length_reverse]
 have h:=left_le c l.reverse
 rwa [List.length_reverse] at h
theorem left_iff (c:UInt8) (l:List UInt8):Trim.left c l = l ↔ l.head? ≠ some c:=by
 cases l with
 | nil => simp [Trim.left]
 | cons a l =>
   unfold Trim.left
   rw [List.dropWhile_cons]
   by_cases h:a = c
   · rw [if_pos (by simpa using h)]
     constructor
     · intro h1
       have h2:=congrArg List.length h1
       have h3:=(List.dropWhile_sublist (fun x:UInt8 => x == c) (l:=l)).length_le
       rw [List.length_cons] at h2
       omega
     · intro h1
       exact absurd (by rw [h]; rfl) h1
   · rw [if_neg (by simpa using h)]
     simp [h]
theorem right_iff (c:UInt8) (l:List UInt8):Trim.right c l = l ↔ l.getLast? ≠ some c:=by
 have h1:Trim.right c l = l ↔ Trim.left c l.reverse = l.reverse:=by
   unfold Trim.right
   constructor
   · intro h
     have h2:=congrArg List.reverse h
     rwa [List.reverse_reverse] at h2
   · intro h
     rw [h,List.reverse_reverse]
 rw [h1,left_iff,List.head?_reverse]
theorem trim_iff (c:UInt8) (l:List UInt8):Trim.left c (Trim.right c l) = l ↔ l.head? ≠ some c /\ l.getLast? ≠ some c:=by
 constructor
 · intro h
   have h1:=left_le c (Trim.right c l)
   have h2:=right_le c l
   rw [h] at h1
   have h3:Trim.right c l = l:=by
     have h4:Trim.right c l <+: l:=by
       unfold Trim.right Trim.left
       have h5:=List.dropWhile_suffix (fun x:UInt8 => x == c) (l:=l.reverse)
       have h6:=List.reverse_prefix.2 h5
       rwa [List.reverse_reverse] at h6
     exact h4.eq_of_length (by omega)
   rw [h3] at h
   exact ⟨(left_iff c l).1 h,(right_iff c l).1 h3⟩
 · rintro ⟨h1,h2⟩
   rw [(right_iff c l).2 h2,(left_iff c l).2 h1]
theorem name_1 (l:List UInt8) (h:l = []):nameOk l = false:=by rw [h]; rfl
theorem name_2 (l:List UInt8) (h:¬ l.length <= 40):nameOk l = false:=by
 unfold nameOk
 rw [decide_eq_false h]
 simp
theorem name_3 (l:List UInt8) (h:¬ l.all okC = true):nameOk l = false:=by
 unfold nameOk
 rw [show l.all okC = false by simpa using h]
 simp
theorem name_4 (l:List UInt8) (h:¬ Trim.left 32 (Trim.right 32 l) = l):nameOk l = false:=by
 rw [trim_iff] at h
 unfold nameOk
 by_cases h1:l.head? ≠ some 32
 · rw [decide_eq_false (fun h2:l.getLast? ≠ some 32 => h ⟨h1,h2⟩)]
   simp
 · rw [decide_eq_false h1]
   simp
theorem name_5 (l:List UInt8) (h0:l ≠ []) (h1:l.length <= 40) (h2:l.all okC = true) (h3:Trim.left 32 (Trim.right 32 l) = l):nameOk l = true:=by
 obtain ⟨h4,h5⟩:=(trim_iff 32 l).1 h3
 unfold nameOk
 rw [decide_eq_true (show 1 <= l.length from List.length_pos_iff.2 h0),decide_eq_true h1,h2,decide_eq_true h4,decide_eq_true h5]
 rfl
theorem allowed_ret (r:Nat):Ret 34 #[.int .i32 (r:Int)] (.bool (okR r)):=by
 intro w
 rcases (show (65 <= r /\ r <= 90) ∨ (48 <= r /\ r <= 57) ∨ r = 32 ∨ (r < 48 /\ r ≠ 32) ∨ (57 < r /\ r < 65) ∨ 90 < r by omega) with ⟨h1,h2⟩ | ⟨h1,h2⟩ | h1 | ⟨h1,h2⟩ | ⟨h1,h2⟩ | h1
 · have e:okR r = true:=by unfold okR; rw [decide_eq_true h1,decide_eq_true h2]; rfl
   rw [e]
   have t1:(65:Int) <= (r:Int):=by omega
   have t2:(r:Int) <= 90:=by omega
   clear h1 h2 e
   go_enter Tryd.func34,Tryd.ntmps34
   go_wp2_with fail
   go_ret
   exact ⟨rfl,rfl⟩
 · have e:okR r = true:=by unfold okR; rw [decide_eq_true h1,decide_eq_true h2]; simp
   rw [e]
   have t1:¬ (65:Int) <= (r:Int):=by omega
   have t2:(48:Int) <= (r:Int):=by omega
   have t3:(r:Int) <= 57:=by omega
   clear h1 h2 e
   go_enter Tryd.func34,Tryd.ntmps34
   go_wp2_with fail
   go_ret
   exact ⟨rfl,rfl⟩
 · subst h1
   go_enter Tryd.func34,Tryd.ntmps34
   go_wp2_with fail
   go_ret
   exact ⟨rfl,rfl⟩
 · have e:okR r = false:=by unfold okR; rw [decide_eq_false (show ¬ 65 <= r by omega),decide_eq_false (show ¬ 48 <= r by omega),decide_eq_false h2]; simp
   rw [e]
   have t1:¬ (65:Int) <= (r:Int):=by omega
   have t2:¬ (48:Int) <= (r:Int):=by omega
   have t3:((r:Int) == 32) = false:=beq_eq_false_iff_ne.2 (by omega)
   clear h1 h2 e
   go_enter Tryd.func34,Tryd.ntmps34
   go_wp2_with fail
   go_ret
   exact ⟨rfl,rfl⟩
 · have e:okR r = false:=by unfold okR; rw [decide_eq_false (show ¬ 65 <= r by omega),decide_eq_false (show ¬ r <= 57 by omega),decide_eq_false (show ¬ r = 32 by omega)]; simp
   rw [e]
   have t1:¬ (65:Int) <= (r:Int):=by omega
   have t2:(48:Int) <= (r:Int):=by omega
   have t3:¬ (r:Int) <= 57:=by omega
   have t4:((r:Int) == 32) = false:=beq_eq_false_iff_ne.2 (by omega)
   clear h1 h2 e
   go_enter Tryd.func34,Tryd.ntmps34
   go_wp2_with fail
   go_ret
   exact ⟨rfl,rfl⟩
 · have e:okR r = false:=by unfold okR; rw [decide_eq_false (show ¬ r <= 90 by omega),decide_eq_false (show ¬ r <= 57 by omega),decide_eq_false (show ¬ r = 32 by omega)]; simp
   rw [e]
   have t0:(65:Int) <= (r:Int):=by omega
   have t1:¬ (r:Int) <= 90:=by omega
   have t2:(48:Int) <= (r:Int):=by omega
   have t3:¬ (r:Int) <= 57:=by omega
   have t4:((r:Int) == 32) = false:=beq_eq_false_iff_ne.2 (by omega)
   clear h1 e
   go_enter Tryd.func34,Tryd.ntmps34
   go_wp2_with fail
   go_ret
   exact ⟨rfl,rfl⟩
end Pm
end Go.Proofs.YtagmgldibjjeeaaDoor
namespace Go.Proofs.YtagmgldibjjeeaaDoor
open Go.RowKit Go.Shelf
attribute [local go_sem] Oper.semAt_some
namespace Pm
abbrev AP:={ s:ByteArray // s.size <= 1000000 }
theorem linesF_any:∀ (f g:Nat) (l:List UInt8),l.length <= f -> l.length <= g -> linesF f l = linesF g l
 | 0,g,l,hf,_ => by
   have h:l = []:=List.length_eq_zero_iff.1 (by omega)
   subst h
   cases g <;> rfl
 | f + 1,0,l,_,hg => by
   have h:l = []:=List.length_eq_zero_iff.1 (by omega)
   subst h
   rfl
 | f + 1,g + 1,l,hf,hg => by
   unfold linesF
   by_cases h:l = []
   · rw [if_pos h,if_pos h]
   · have h1:0 < l.length:=List.length_pos_iff.2 h
     rw [if_neg h,if_neg h,linesF_any f g (l.drop 64) (by rw [List.length_drop]; omega) (by rw [List.length_drop]; omega)]
theorem lines_nil:linesL [] = []:=rfl
theorem lines_step (l:List UInt8) (h:l ≠ []):linesL l = l.take 64 :: linesL (l.drop 64):=by
 have h1:0 < l.length:=List.length_pos_iff.2 h
 unfold linesL
 rw [show l.length = (l.length - 1) + 1 by omega]
 conv => lhs; unfold linesF
 rw [if_neg h,linesF_any (l.length - 1) (l.drop 64).length (l.drop 64) (by rw [List.length_drop]; omega) (Nat.le_refl _)]
theorem ap_list (t:ByteArray) (hm:t.size <= 1000000):∃ T:List AP,T.map (fun x => x.1.data.toList) = linesL t.data.toList:=by
 have h:∀ ps:List (List UInt8),(∀ p ∈ ps,p.length <= 1000000) -> ∃ T:List AP,T.map (fun x => x.1.data.toList) = ps:=by
   intro ps
   induction ps with
   | nil => intro _; exact ⟨[],rfl⟩
   | cons p ps ih =>
     intro hp
     obtain ⟨T,hT⟩:=ih fun q hq => hp q (by simp [hq])
     exact ⟨⟨bs p,by rw [size_bs]; exact hp p (by simp)⟩ :: T,by rw [List.map_cons,hT,list_bs]⟩
 refine h _ fun p hp => ?_
 have h1:∀ (f:Nat) (l x:List UInt8),x ∈ linesF f l -> x.length <= l.length:=by
   intro f
   induction f with
   | zero => intro l x h; cases h
   | succ f ih =>
     intro l x h
     unfold linesF at h
     by_cases h0:l = []
     · rw [if_pos h0] at h; cases h
     · rw [if_neg h0] at h
       rcases List.mem_cons.1 h with rfl | h
       · rw [List.length_take]; omega
       · have h2:=ih _ x h
         rw [List.length_drop] at h2
         omega
 have h2:=h1 _ _ p hp
 have h3:t.data.toList.length = t.size:=rfl
 omega
theorem lines_ret (c:ByteArray) (w:World):Calls Tryd.prog 19 #[.string c] w fun e w' => e = .returned (.func (.func 38) #[] #[.pointer (some ⟨w.heap.size,0,none⟩)]) /\ w' = w.alloc (.cells #[.string c] 9):=by
 go_enter Tryd.func19,Tryd.ntmps19
 go_wp2_with fail
 go_ret
 exact ⟨rfl,rfl⟩
def boxN (Bn:Nat) (w:World):Nat:=match w.cell? ⟨Bn,0,none⟩ with
 | some (.string s) => s.size
 | _ => 0
theorem boxN_of {W:World} {Bn:Nat} {t:TypeId} {s:ByteArray} (h:Boxed W Bn t (.string s)):boxN Bn W = s.size:=by unfold boxN; rw [h.cell]
set_option maxHeartbeats 4000000 in
theorem lines_in (n9:Nat) (hn9:1 <= n9) (l Bn:Nat) (T:List AP) (t:ByteArray) (hm:t.size <= 1000000) (hT:T.map (fun x => x.1.data.toList) = linesL t.data.toList) (J Jx:List AP -> World -> Prop) (hJ:∀ s X Y,J s X -> Stp Bn X Y -> J s Y)
   (hY:∀ pre x W,J pre W -> pre.length < T.length -> YieldAt Fence.wide (n9 - 1) Tryd.prog l #[.string x.1] W fun e W' =>
     (e = .returned (.bool true) /\ J (pre ++ [x]) W' /\ W'.heap[Bn]? = W.heap[Bn]?) ∨ (e = .returned (.bool false) /\ Jx (pre ++ [x]) W'))
   (W:World) (hB:Boxed W Bn 9 (.string t)) (h0:J [] W) :
   CallsIn Fence.wide n9 Tryd.prog 38 #[.func (.yield l) #[] #[],.pointer (some ⟨Bn,0,none⟩)] W fun e W' => (∃ v,e = .returned v) /\
     ((∃ ys,ys = T /\ J ys W') ∨ (∃ pre,pre <+: T /\ Jx pre W')):=by
 have HT:=lH hT
 have HY:=lH hY
 have HJ:=lH hJ
 have HB:=lH hB
 clear hT hY hB hJ
 refine callsIn_of_wp Tryd.func38 rfl trivial ?_ rfl
 simp only [Tryd.ntmps38,List.size_toArray,List.length_cons,List.length_nil,Nat.reduceAdd,Nat.reduceSub,Array.replicate_succ,Array.replicate_zero,List.push_toArray,List.append_toArray,List.nil_append,List.cons_append]
 gi_wp2
 gi_loopw [3] (fun _ wr => ∃ (R:ByteArray) (pre rest:List AP),R.size <= 1000000 /\ Hid (T = pre ++ rest) /\ Hid (rest.map (fun x => x.1.data.toList) = linesL R.data.toList) /\ Hid (J pre wr) /\ Hid (Boxed wr Bn 9 (.string R)))
   (fun _ wr => boxN Bn wr)
 case atStart => exact ⟨t,[],T,hm,lH rfl,HT,lH h0,HB⟩
 case round =>
   clear h0 HT HB hm
   obtain ⟨R,pre,rest,hR,HT,HS,HJ0,HB⟩:=hrel
   have hcB:=HB.out.cell
   by_cases hR0:R.data.toList = []
   · have e0:(R.toList == ([]:List UInt8)) = true:=by rw [toList_d,hR0]; rfl
     have e1:(R.toList != ([]:List UInt8)) = false:=by rw [bne,e0]; rfl
     have hrest:rest = []:=by
       have h9:=HS.out
       rw [hR0,lines_nil] at h9
       exact List.map_eq_nil_iff.1 h9
     subst hrest
     have hT2:=HT.out
     rw [List.append_nil] at hT2
     have HT2:=lH hT2
     clear hT2 hR0
     gi_wp2
     go_end0
     exact ⟨⟨_,rfl⟩,.inl ⟨_,HT2.out.symm,HJ0.out⟩⟩
   · have e0:(R.toList == ([]:List UInt8)) = false:=by rw [toList_d]; exact beq_eq_false_iff_ne.2 hR0
     have e1:(R.toList != ([]:List UInt8)) = true:=by rw [bne,e0]; rfl
     have hst:=HS.out
     rw [lines_step _ hR0] at hst
     have hR1:0 < R.size:=List.length_pos_iff.2 hR0
     cases rest with
     | nil => cases hst
     | cons x rest =>
       rw [List.map_cons,List.cons.injEq] at hst
       obtain ⟨hx,hrest⟩:=hst
       obtain ⟨k,hk⟩:∃ k,k = min 64 R.size:=⟨_,rfl⟩
       obtain ⟨A,hA⟩:∃ A,A = R.extract 0 k:=⟨_,rfl⟩
       obtain ⟨B,hB⟩:∃ B,B = R.extract k R.size:=⟨_,rfl⟩
       have hRl:R.data.toList.length = R.size:=rfl
       have hAl:A.data.toList = R.data.toList.take 64:=by
         rw [hA,show (R.extract 0 k).data.toList = R.data.toList.take k by rw [ByteArray.data_extract,Array.toList_extract]; unfold List.extract; rw [List.drop_zero,Nat.sub_zero],hk]
         by_cases h9:R.size <= 64
         · rw [Nat.min_eq_right h9,List.take_of_length_le (by omega),List.take_of_length_le (by omega)]
         · rw [Nat.min_eq_left (by omega)]
       have hBl:B.data.toList = R.data.toList.drop 64:=by
         have h8:B.data.toList = R.data.toList.drop k:=by
           rw [hB,ByteArray.data_extract,Array.toList_extract]
           unfold List.extract
           rw [List.take_of_length_le (by rw [List.length_drop]; omega)]
         rw [h8,hk]
         by_cases h9:R.size <= 64
         · rw [Nat.min_eq_right h9,List.drop_eq_nil_of_le (by omega),List.drop_eq_nil_of_le (by omega)]
         · rw [Nat.min_eq_left (by omega)]
       have hBd:B.size < R.size /\ B.size <= 1000000:=by
         have h7:B.data.toList.length = B.size:=rfl
         rw [hBl,List.length_drop] at h7
         omega
       obtain ⟨hB1,hB2⟩:=hBd
       have hxA:x.1 = A:=ba_ext (hx.trans hAl.symm)
       have hrest2:rest.map (fun x => x.1.data.toList) = linesL B.data.toList:=by rw [hrest,hBl]
       have hT2:T = (pre ++ [x]) ++ rest:=by rw [HT.out]; simp
       obtain ⟨fn,tmps,assign,body,hy,hRd⟩:=HY.out pre x wr HJ0.out (by rw [hT2]; simp)
       rw [hxA,hA] at hy
       have hk1:(min (64:Int) (R.size:Int)) = (k:Int):=by rw [hk]; omega
       have hk2:(0:Int) <= (k:Int):=by omega
       have hk3:(k:Int) <= (R.size:Int):=by rw [hk]; omega
       have hkz:k <= R.size:=by omega
       have HA:=lH hA
       have HBX:=lH hB
       clear hAl hBl hx hrest hk hRl hA hB hR0 hR1 hxA
       have Hrest2:=lH hrest2
       clear hrest2
       have HT2:=lH hT2
       clear hT2
       gi_wp2
       refine hRd.mono ?_
       rintro e W3 (⟨rfl,hJ3,hk9⟩ | ⟨rfl,hJx3⟩)
       · have hB3:Boxed W3 Bn 9 (.string R):=hk9.trans HB.out
         have q0:=hB3.cell
         have q1:=hB3.frozen
         have HB4:Hid (Boxed (W3.setCell ⟨Bn,0,none⟩ (.string (R.extract k R.size))) Bn 9 (.string B)):=lH (by
           have h9:=hB3.set (.string (R.extract k R.size))
           rw [<- HBX.out] at h9 ⊢
           exact h9)
         have HJ4:Hid (J (pre ++ [x]) (W3.setCell ⟨Bn,0,none⟩ (.string (R.extract k R.size)))):=lH (HJ.out _ _ _ hJ3 (.own _))
         clear hk9 hJ3 hB3 hy hRd
         gi_wp2
         go_roundw
         case rel => exact ⟨B,pre ++ [x],rest,hB2,HT2,Hrest2,HJ4,HB4⟩
         case measure => rw [boxN_of HB4.out,boxN_of HB.out]; exact hB1
       · have HJx3:=lH hJx3
         clear hJx3
         clear hy hRd
         gi_wp2
         refine bodyPost_ret (results_none rfl _ _ _) rfl ?_
         exact ⟨⟨_,rfl⟩,.inr ⟨_,⟨_,HT2.out.symm⟩,HJx3.out⟩⟩
end Pm
end Go.Proofs.YtagmgldibjjeeaaDoor
