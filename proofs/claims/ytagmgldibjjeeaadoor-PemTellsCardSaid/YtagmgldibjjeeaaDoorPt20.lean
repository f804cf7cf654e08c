import Derived.Test.YtagmgldibjjeeaaDoorPt19
import Derived.Test.YtagmgldibjjeeaaDoorPt14
import Derived.Test.YtagmgldibjjeeaaDoorPt1
set_option maxRecDepth 100000
namespace Go.Proofs.YtagmgldibjjeeaaDoor
open Go.RowKit
namespace Pm
def okR (r:Nat):Bool:=(decide (65 <= r) && decide (r <= 90)) || (decide (48 <= r) && decide (r <= 57)) || decide (r = 32)
theorem okR_c (c:UInt8):okR c.toNat = okC c:=rfl
theorem okR_hi (r:Nat) (h:128 <= r):okR r = false:=by
 unfold okR
 rw [decide_eq_false (show ¬ r <= 90 by omega),decide_eq_false (show ¬ r <= 57 by omega),decide_eq_false (show ¬ r = 32 by omega)]
 simp
theorem left_le (c:UInt8) (l:List UInt8):(Trim.left c l).length <= l.length:=(List.dropWhile_sublist _).length_le
theorem right_le (c:UInt8) (l:List UInt8):(Trim.right c l).length <= l.length:=by
 unfold Trim.right
 rw [List.length_reverse]
 have h:=left_le c l.reverse
 rwa [List.length_reverse] at h
theorem left_iff (c:UInt8) (l:List UInt8):Trim.left c l = l ↔ l.head? ≠ some c:=by
 cases l with
 | nil => simp [Trim.left]
 | cons a l =>
   unfold Trim.left
   rw [List.dropWhile_cons]
   by_cases h:a = c
   · rw [if_pos (by simpa using h)]
     constructor
     · intro h1
       have h2:=congrArg List.length h1
       have h3:=(List.dropWhile_sublist (fun x:UInt8 => x == c) (l:=l)).length_le
       rw [List.length_cons] at h2
       omega
     · intro h1
       exact absurd (by rw [h]; rfl) h1
   · rw [if_neg (by simpa using h)]
     simp [h]
theorem right_iff (c:UInt8) (l:List UInt8):Trim.right c l = l ↔ l.getLast? ≠ some c:=by
 have h1:Trim.right c l = l ↔ Trim.left c l.reverse = l.reverse:=by
   unfold Trim.right
   constructor
   · intro h
     have h2:=congrArg List.reverse h
     rwa [List.reverse_reverse] at h2
   · intro h
     rw [h,List.reverse_reverse]
 rw [h1,left_iff,List.head?_reverse]
theorem trim_iff (c:UInt8) (l:List UInt8):Trim.left c (Trim.right c l) = l ↔ l.head? ≠ some c /\ l.getLast? ≠ some c:=by
 constructor
 · intro h
   have h1:=left_le c (Trim.right c l)
   have h2:=right_le c l
   rw [h] at h1
   have h3:Trim.right c l = l:=by
     have h4:Trim.right c l <+: l:=by
       unfold Trim.right Trim.left
       have h5:=List.dropWhile_suffix (fun x:UInt8 => x == c) (l:=l.reverse)
       have h6:=List.reverse_prefix.2 h5
       rwa [List.reverse_reverse] at h6
     exact h4.eq_of_length (by omega)
   rw [h3] at h
   exact ⟨(left_iff c l).1 h,(right_iff c l).1 h3⟩
 · rintro ⟨h1,h2⟩
   rw [(right_iff c l).2 h2,(left_iff c l).2 h1]
theorem name_1 (l:List UInt8) (h:l = []):nameOk l = false:=by rw [h]; rfl
theorem name_2 (l:List UInt8) (h:¬ l.length <= 40):nameOk l = false:=by
 unfold nameOk
 rw [decide_eq_false h]
 simp
theorem name_3 (l:List UInt8) (h:¬ l.all okC = true):nameOk l = false:=by
 unfold nameOk
 rw [show l.all okC = false by simpa using h]
 simp
theorem name_4 (l:List UInt8) (h:¬ Trim.left 32 (Trim.right 32 l) = l):nameOk l = false:=by
 rw [trim_iff] at h
 unfold nameOk
 by_cases h1:l.head? ≠ some 32
 · rw [decide_eq_false (fun h2:l.getLast? ≠ some 32 => h ⟨h1,h2⟩)]
   simp
 · rw [decide_eq_false h1]
   simp
theorem name_5 (l:List UInt8) (h0:l ≠ []) (h1:l.length <= 40) (h2:l.all okC = true) (h3:Trim.left 32 (Trim.right 32 l) = l):nameOk l = true:=by
 obtain ⟨h4,h5⟩:=(trim_iff 32 l).1 h3
 unfold nameOk
 rw [decide_eq_true (show 1 <= l.length from List.length_pos_iff.2 h0),decide_eq_true h1,h2,decide_eq_true h4,decide_eq_true h5]
 rfl
theorem allowed_ret (r:Nat):Ret 34 #[.int .i32 (r:Int)] (.bool (okR r)):=by
 intro w
 rcases (show (65 <= r /\ r <= 90) ∨ (48 <= r /\ r <= 57) ∨ r = 32 ∨ (r < 48 /\ r ≠ 32) ∨ (57 < r /\ r < 65) ∨ 90 < r by omega) with ⟨h1,h2⟩ | ⟨h1,h2⟩ | h1 | ⟨h1,h2⟩ | ⟨h1,h2⟩ | h1
 · have e:okR r = true:=by unfold okR; rw [decide_eq_true h1,decide_eq_true h2]; rfl
   rw [e]
   have t1:(65:Int) <= (r:Int):=by omega
   have t2:(r:Int) <= 90:=by omega
   clear h1 h2 e
   go_enter Tryd.func34,Tryd.ntmps34
   go_wp2_with fail
   go_ret
   exact ⟨rfl,rfl⟩
 · have e:okR r = true:=by unfold okR; rw [decide_eq_true h1,decide_eq_true h2]; simp
   rw [e]
   have t1:¬ (65:Int) <= (r:Int):=by omega
   have t2:(48:Int) <= (r:Int):=by omega
   have t3:(r:Int) <= 57:=by omega
   clear h1 h2 e
   go_enter Tryd.func34,Tryd.ntmps34
   go_wp2_with fail
   go_ret
   exact ⟨rfl,rfl⟩
 · subst h1
   go_enter Tryd.func34,Tryd.ntmps34
   go_wp2_with fail
   go_ret
   exact ⟨rfl,rfl⟩
 · have e:okR r = false:=by unfold okR; rw [decide_eq_false (show ¬ 65 <= r by omega),decide_eq_false (show ¬ 48 <= r by omega),decide_eq_false h2]; simp
   rw [e]
   have t1:¬ (65:Int) <= (r:Int):=by omega
   have t2:¬ (48:Int) <= (r:Int):=by omega
   have t3:((r:Int) == 32) = false:=beq_eq_false_iff_ne.2 (by omega)
   clear h1 h2 e
   go_enter Tryd.func34,Tryd.ntmps34
   go_wp2_with fail
   go_ret
   exact ⟨rfl,rfl⟩
 · have e:okR r = false:=by unfold okR; rw [decide_eq_false (show ¬ 65 <= r by omega),decide_eq_false (show ¬ r <= 57 by omega),decide_eq_false (show ¬ r = 32 by omega)]; simp
   rw [e]
   have t1:¬ (65:Int) <= (r:Int):=by omega
   have t2:(48:Int) <= (r:Int):=by omega
   have t3:¬ (r:Int) <= 57:=by omega
   have t4:((r:Int) == 32) = false:=beq_eq_false_iff_ne.2 (by omega)
   clear h1 h2 e
   go_enter Tryd.func34,Tryd.ntmps34
   go_wp2_with fail
   go_ret
   exact ⟨rfl,rfl⟩
 · have e:okR r = false:=by unfold okR; rw [decide_eq_false (show ¬ r <= 90 by omega),decide_eq_false (show ¬ r <= 57 by omega),decide_eq_false (show ¬ r = 32 by omega)]; simp
   rw [e]
   have t0:(65:Int) <= (r:Int):=by omega
   have t1:¬ (r:Int) <= 90:=by omega
   have t2:(48:Int) <= (r:Int):=by omega
   have t3:¬ (r:Int) <= 57:=by omega
   have t4:((r:Int) == 32) = false:=beq_eq_false_iff_ne.2 (by omega)
   clear h1 e
   go_enter Tryd.func34,Tryd.ntmps34
   go_wp2_with fail
   go_ret
   exact ⟨rfl,rfl⟩
end Pm
end Go.Proofs.YtagmgldibjjeeaaDoor
namespace Go.Proofs.YtagmgldibjjeeaaDoor
open Go.RowKit Go.Shelf
attribute [local go_sem] Oper.semAt_some
namespace Pm
abbrev AP:={ s:ByteArray // s.size <= 1000000 }
theorem linesF_any:∀ (f g:Nat) (l:List UInt8),l.length <= f -> l.length <= g -> linesF f l = linesF g l
 | 0,g,l,hf,_ => by
   have h:l = []:=List.length_eq_zero_iff.1 (by omega)
   subst h
   cases g <;> rfl
 | f + 1,0,l,_,hg => by
   have h:l = []:=List.length_eq_zero_iff.1 (by omega)
   subst h
   rfl
 | f + 1,g + 1,l,hf,hg => by
   unfold linesF
   by_cases h:l = []
   · rw [if_pos h,if_pos h]
   · have h1:0 < l.length:=List.length_pos_iff.2 h
     rw [if_neg h,if_neg h,linesF_any f g (l.drop 64) (by rw [List.length_drop]; omega) (by rw [List.length_drop]; omega)]
theorem lines_nil:linesL [] = []:=rfl
theorem lines_step (l:List UInt8) (h:l ≠ []):linesL l = l.take 64 :: linesL (l.drop 64):=by
 have h1:0 < l.length:=List.length_pos_iff.2 h
 unfold linesL
 rw [show l.length = (l.length - 1) + 1 by omega]
 conv => lhs; unfold linesF
 rw [if_neg h,linesF_any (l.length - 1) (l.drop 64).length (l.drop 64) (by rw [List.length_drop]; omega) (Nat.le_refl _)]
theorem ap_list (t:ByteArray) (hm:t.size <= 1000000):∃ T:List AP,T.map (fun x => x.1.data.toList) = linesL t.data.toList:=by
 have h:∀ ps:List (List UInt8),(∀ p ∈ ps,p.length <= 1000000) -> ∃ T:List AP,T.map (fun x => x.1.data.toList) = ps:=by
   intro ps
   induction ps with
   | nil => intro _; exact ⟨[],rfl⟩
   | cons p ps ih =>
     intro hp
     obtain ⟨T,hT⟩:=ih fun q hq => hp q (by simp [hq])
     exact ⟨⟨bs p,by rw [size_bs]; exact hp p (by simp)⟩ :: T,by rw [List.map_cons,hT,list_bs]⟩
 refine h _ fun p hp => ?_
 have h1:∀ (f:Nat) (l x:List UInt8),x ∈ linesF f l -> x.length <= l.length:=by
   intro f
   induction f with
   | zero => intro l x h; cases h
   | succ f ih =>
     intro l x h
     unfold linesF at h
     by_cases h0:l = []
     · rw [if_pos h0] at h; cases h
     · rw [if_neg h0] at h
       rcases List.mem_cons.1 h with rfl | h
       · rw [List.length_take]; omega
       · have h2:=ih _ x h
         rw [List.length_drop] at h2
         omega
 have h2:=h1 _ _ p hp
 have h3:t.data.toList.length = t.size:=rfl
 omega
theorem lines_ret (c:ByteArray) (w:World):Calls Tryd.prog 19 #[.string c] w fun e w' => e = .returned (.func (.func 38) #[] #[.pointer (some ⟨w.heap.size,0,none⟩)]) /\ w' = w.alloc (.cells #[.string c] 9):=by
 go_enter Tryd.func19,Tryd.ntmps19
 go_wp2_with fail
 go_ret
 exact ⟨rfl,rfl⟩
def boxN (Bn:Nat) (w:World):Nat:=match w.cell? ⟨Bn,0,none⟩ with
 | some (.string s) => s.size
 | _ => 0
theorem boxN_of {W:World} {Bn:Nat} {t:TypeId} {s:ByteArray} (h:Boxed W Bn t (.string s)):boxN Bn W = s.size:=by unfold boxN; rw [h.cell]
set_option maxHeartbeats 4000000 in
theorem lines_in (n9:Nat) (hn9:1 <= n9) (l Bn:Nat) (T:List AP) (t:ByteArray) (hm:t.size <= 1000000) (hT:T.map (fun x => x.1.data.toList) = linesL t.data.toList) (J Jx:List AP -> World -> Prop) (hJ:∀ s X Y,J s X -> Stp Bn X Y -> J s Y)
   (hY:∀ pre x W,J pre W -> pre.length < T.length -> YieldAt Fence.wide (n9 - 1) Tryd.prog l #[.string x.1] W fun e W' =>
     (e = .returned (.bool true) /\ J (pre ++ [x]) W' /\ W'.heap[Bn]? = W.heap[Bn]?) ∨ (e = .returned (.bool false) /\ Jx (pre ++ [x]) W'))
   (W:World) (hB:Boxed W Bn 9 (.string t)) (h0:J [] W) :
   CallsIn Fence.wide n9 Tryd.prog 38 #[.func (.yield l) #[] #[],.pointer (some ⟨Bn,0,none⟩)] W fun e W' => (∃ v,e = .returned v) /\
     ((∃ ys,ys = T /\ J ys W') ∨ (∃ pre,pre <+: T /\ Jx pre W')):=by
 have HT:=lH hT
 have HY:=lH hY
 have HJ:=lH hJ
 have HB:=lH hB
 clear hT hY hB hJ
 refine callsIn_of_wp Tryd.func38 rfl trivial ?_ rfl
 simp only [Tryd.ntmps38,List.size_toArray,List.length_cons,List.length_nil,Nat.reduceAdd,Nat.reduceSub,Array.replicate_succ,Array.replicate_zero,List.push_toArray,List.append_toArray,List.nil_append,List.cons_append]
 gi_wp2
 gi_loopw [3] (fun _ wr => ∃ (R:ByteArray) (pre rest:List AP),R.size <= 1000000 /\ Hid (T = pre ++ rest) /\ Hid (rest.map (fun x => x.1.data.toList) = linesL R.data.toList) /\ Hid (J pre wr) /\ Hid (Boxed wr Bn 9 (.string R)))
   (fun _ wr => boxN Bn wr)
 case atStart => exact ⟨t,[],T,hm,lH rfl,HT,lH h0,HB⟩
 case round =>
   clear h0 HT HB hm
   obtain ⟨R,pre,rest,hR,HT,HS,HJ0,HB⟩:=hrel
   have hcB:=HB.out.cell
   by_cases hR0:R.data.toList = []
   · have e0:(R.toList == ([]:List UInt8)) = true:=by rw [toList_d,hR0]; rfl
     have e1:(R.toList != ([]:List UInt8)) = false:=by rw [bne,e0]; rfl
     have hrest:rest = []:=by
       have h9:=HS.out
       rw [hR0,lines_nil] at h9
       exact List.map_eq_nil_iff.1 h9
     subst hrest
     have hT2:=HT.out
     rw [List.append_nil] at hT2
     have HT2:=lH hT2
     clear hT2 hR0
     gi_wp2
     go_end0
     exact ⟨⟨_,rfl⟩,.inl ⟨_,HT2.out.symm,HJ0.out⟩⟩
   · have e0:(R.toList == ([]:List UInt8)) = false:=by rw [toList_d]; exact beq_eq_false_iff_ne.2 hR0
     have e1:(R.toList != ([]:List UInt8)) = true:=by rw [bne,e0]; rfl
     have hst:=HS.out
     rw [lines_step _ hR0] at hst
     have hR1:0 < R.size:=List.length_pos_iff.2 hR0
     cases rest with
     | nil => cases hst
     | cons x rest =>
       rw [List.map_cons,List.cons.injEq] at hst
       obtain ⟨hx,hrest⟩:=hst
       obtain ⟨k,hk⟩:∃ k,k = min 64 R.size:=⟨_,rfl⟩
       obtain ⟨A,hA⟩:∃ A,A = R.extract 0 k:=⟨_,rfl⟩
       obtain ⟨B,hB⟩:∃ B,B = R.extract k R.size:=⟨_,rfl⟩
       have hRl:R.data.toList.length = R.size:=rfl
       have hAl:A.data.toList = R.data.toList.take 64:=by
         rw [hA,show (R.extract 0 k).data.toList = R.data.toList.take k by rw [ByteArray.data_extract,Array.toList_extract]; unfold List.extract; rw [List.drop_zero,Nat.sub_zero],hk]
         by_cases h9:R.size <= 64
         · rw [Nat.min_eq_right h9,List.take_of_length_le (by omega),List.take_of_length_le (by omega)]
         · rw [Nat.min_eq_left (by omega)]
       have hBl:B.data.toList = R.data.toList.drop 64:=by
         have h8:B.data.toList = R.data.toList.drop k:=by
           rw [hB,ByteArray.data_extract,Array.toList_extract]
           unfold List.extract
           rw [List.take_of_length_le (by rw [List.length_drop]; omega)]
         rw [h8,hk]
         by_cases h9:R.size <= 64
         · rw [Nat.min_eq_right h9,List.drop_eq_nil_of_le (by omega),List.drop_eq_nil_of_le (by omega)]
         · rw [Nat.min_eq_left (by omega)]
       have hBd:B.size < R.size /\ B.size <= 1000000:=by
         have h7:B.data.toList.length = B.size:=rfl
         rw [hBl,List.length_drop] at h7
         omega
       obtain ⟨hB1,hB2⟩:=hBd
       have hxA:x.1 = A:=ba_ext (hx.trans hAl.symm)
       have hrest2:rest.map (fun x => x.1.data.toList) = linesL B.data.toList:=by rw [hrest,hBl]
       have hT2:T = (pre ++ [x]) ++ rest:=by rw [HT.out]; simp
       obtain ⟨fn,tmps,assign,body,hy,hRd⟩:=HY.out pre x wr HJ0.out (by rw [hT2]; simp)
       rw [hxA,hA] at hy
       have hk1:(min (64:Int) (R.size:Int)) = (k:Int):=by rw [hk]; omega
       have hk2:(0:Int) <= (k:Int):=by omega
       have hk3:(k:Int) <= (R.size:Int):=by rw [hk]; omega
       have hkz:k <= R.size:=by omega
       have HA:=lH hA
       have HBX:=lH hB
       clear hAl hBl hx hrest hk hRl hA hB hR0 hR1 hxA
       have Hrest2:=lH hrest2
       clear hrest2
       have HT2:=lH hT2
       clear hT2
       gi_wp2
       refine hRd.mono ?_
       rintro e W3 (⟨rfl,hJ3,hk9⟩ | ⟨rfl,hJx3⟩)
       · have hB3:Boxed W3 Bn 9 (.string R):=hk9.trans HB.out
         have q0:=hB3.cell
         have q1:=hB3.frozen
         have HB4:Hid (Boxed (W3.setCell ⟨Bn,0,none⟩ (.string (R.extract k R.size))) Bn 9 (.string B)):=lH (by
           have h9:=hB3.set (.string (R.extract k R.size))
           rw [<- HBX.out] at h9 ⊢
           exact h9)
         have HJ4:Hid (J (pre ++ [x]) (W3.setCell ⟨Bn,0,none⟩ (.string (R.extract k R.size)))):=lH (HJ.out _ _ _ hJ3 (.own _))
         clear hk9 hJ3 hB3 hy hRd
         gi_wp2
         go_roundw
         case rel => exact ⟨B,pre ++ [x],rest,hB2,HT2,Hrest2,HJ4,HB4⟩
         case measure => rw [boxN_of HB4.out,boxN_of HB.out]; exact hB1
       · have HJx3:=lH hJx3
         clear hJx3
         clear hy hRd
         gi_wp2
         refine bodyPost_ret (results_none rfl _ _ _) rfl ?_
         exact ⟨⟨_,rfl⟩,.inr ⟨_,⟨_,HT2.out.symm⟩,HJx3.out⟩⟩
end Pm
end Go.Proofs.YtagmgldibjjeeaaDoor
namespace Go.Proofs.YtagmgldibjjeeaaDoor
open Go.RowKit
namespace Pm
theorem pcs_snoc (c x:UInt8) (l:List UInt8) (P:List (List UInt8)) (o:List UInt8) (h:Sp.pcs c l = P ++ [o]):Sp.pcs c (l ++ [x]) = if x = c then (P ++ [o]) ++ [[]] else P ++ [o ++ [x]]:=by
 induction l generalizing P o with
 | nil =>
   have h0:Sp.pcs c [] = [[]]:=rfl
   rw [h0] at h
   obtain ⟨rfl,rfl⟩:P = [] /\ o = []:=by
     cases P with
     | nil => simp at h; exact ⟨rfl,h⟩
     | cons y P => simp at h
   show Sp.pcs c [x] = _
   rw [Sp.pcs,h0]
   split <;> rfl
 | cons y l ih =>
   obtain ⟨Q,q,hq⟩:∃ Q q,Sp.pcs c l = Q ++ [q]:=by
     rcases List.eq_nil_or_concat (Sp.pcs c l) with h9 | ⟨Q,q,h9⟩
     · exact absurd h9 (Sp.pcs_ne c l)
     · exact ⟨Q,q,by rw [h9,List.concat_eq_append]⟩
   have h1:=ih Q q hq
   rw [Sp.pcs,hq] at h
   rw [List.cons_append,Sp.pcs,h1]
   by_cases hy:y = c
   · rw [if_pos hy] at h ⊢
     have h2:P ++ [o] = ([] :: Q) ++ [q]:=h.symm
     obtain ⟨rfl,h3⟩:=List.append_inj' h2 rfl
     cases h3
     by_cases hx:x = c <;> simp [hx]
   · rw [if_neg hy] at h ⊢
     cases Q with
     | nil =>
       have h2:P ++ [o] = [] ++ [y :: q]:=h.symm
       obtain ⟨rfl,h3⟩:=List.append_inj' h2 rfl
       cases h3
       by_cases hx:x = c <;> simp [hx]
     | cons z Q =>
       have h2:P ++ [o] = ((y :: z) :: Q) ++ [q]:=h.symm
       obtain ⟨rfl,h3⟩:=List.append_inj' h2 rfl
       cases h3
       by_cases hx:x = c <;> simp [hx]
def rlin (t:List UInt8):List (List UInt8):=(Sp.pcs 10 t).dropLast
def rnm (l:List UInt8):List UInt8:=(l.drop 11).take (l.length - 16)
def runar (t:List UInt8) (L:List (List UInt8)):List UInt8 × List UInt8 × Int :=
 if L.length < 3 ∨ (L.getD 0 []).length < 17 then ([],[],5)
 else if (unbV ((L.drop 1).dropLast).flatten).2 = true /\ armV (rnm (L.getD 0 [])) (unbV ((L.drop 1).dropLast).flatten).1 = (t,0) then (rnm (L.getD 0 []),(unbV ((L.drop 1).dropLast).flatten).1,0) else ([],[],5)
theorem name_free {l:List UInt8} (h:nameOk l = true):(10:UInt8) ∉ l:=by
 unfold nameOk at h
 simp only [Bool.and_eq_true] at h
 intro h9
 have h8:=List.all_eq_true.1 h.2.2.1 10 h9
 exact absurd h8 (by decide)
def d5:List UInt8:=[45,45,45,45,45]
theorem pcs_body (ls:List (List UInt8)) (h:∀ l ∈ ls,(10:UInt8) ∉ l) (X:List UInt8):Sp.pcs 10 (bodyL ls ++ X) = ls ++ Sp.pcs 10 X:=by
 induction ls with
 | nil => rfl
 | cons l ls ih =>
   have e:bodyL (l :: ls) ++ X = l ++ 10 :: (bodyL ls ++ X):=by
     unfold bodyL
     rw [List.flatMap_cons]
     simp only [List.append_assoc,List.cons_append,List.nil_append]
   rw [e,Sp.pcs_cut 10 _ _ (h l (List.mem_cons_self ..)),ih fun x hx => h x (List.mem_cons_of_mem _ hx)]
   rfl
theorem pcs_arm (name b:List UInt8) (h:nameOk name = true):rlin (armorL name b) = (begL ++ name ++ d5) :: (linesL (baseL b) ++ [endL ++ name ++ d5]):=by
 have hn:=name_free h
 have e:armorL name b = (begL ++ name ++ d5) ++ 10 :: (bodyL (linesL (baseL b)) ++ ((endL ++ name ++ d5) ++ 10 :: [])):=by
   unfold armorL
   rw [show dshL = d5 ++ [10] from rfl]
   simp only [List.append_assoc,List.cons_append,List.nil_append]
 have h1:(10:UInt8) ∉ begL ++ name ++ d5:=by
   simp only [List.mem_append]
   rintro ((h | h) | h)
   · exact absurd h (by decide)
   · exact hn h
   · exact absurd h (by decide)
 have h2:(10:UInt8) ∉ endL ++ name ++ d5:=by
   simp only [List.mem_append]
   rintro ((h | h) | h)
   · exact absurd h (by decide)
   · exact hn h
   · exact absurd h (by decide)
 unfold rlin
 rw [e,Sp.pcs_cut 10 _ _ h1,pcs_body (linesL (baseL b)) (fun l hl h9 => base_free b 10 (lines_mem _ _ l hl 10 h9) rfl),Sp.pcs_cut 10 _ _ h2,show Sp.pcs 10 [] = [[]] from rfl]
 rw [show linesL (baseL b) ++ (endL ++ name ++ d5) :: [[]] = (linesL (baseL b) ++ [endL ++ name ++ d5]) ++ [[]] by simp,<- List.cons_append,List.dropLast_concat]
theorem base_ne {b:List UInt8} (h:b ≠ []):linesL (baseL b) ≠ []:=by
 have h1:baseL b ≠ []:=fun h9 => by
   have h8:=base_len b
   rw [h9] at h8
   have:0 < b.length:=List.length_pos_iff.2 h
   simp at h8
   omega
 rw [lines_step _ h1]
 exact List.cons_ne_nil _ _
theorem arm_parts {name b:List UInt8} (h:(armV name b).2 = 0):1 <= name.length /\ b ≠ []:=by
 have h1:=(arm_ok h).1
 refine ⟨?_,fun h2 => ?_⟩
 · unfold nameOk at h1
   simp only [Bool.and_eq_true,decide_eq_true_eq] at h1
   exact h1.1
 · unfold armV at h
   rw [h1,if_neg (by decide),if_pos h2] at h
   exact absurd h (by decide)
theorem runar_eq (t:List UInt8):runar t (rlin t) = unarV t:=by
 by_cases h:∃ name b,armV name b = (t,0)
 · obtain ⟨name,b,h⟩:=h
   have h0:(armV name b).2 = 0:=by rw [h]
   obtain ⟨h1,h2⟩:=arm_ok h0
   obtain ⟨h3,h4⟩:=arm_parts h0
   have ht:t = armorL name b:=by
     rw [h] at h2
     exact congrArg Prod.fst h2
   have h5:=unar_arm h0
   rw [h] at h5
   rw [show unarV t = (name,b,0) from h5]
   have hne:=List.length_pos_iff.2 (base_ne h4)
   have e:=pcs_arm name b h1
   rw [<- ht] at e
   rw [e]
   have l0:((begL ++ name ++ d5) :: (linesL (baseL b) ++ [endL ++ name ++ d5])).getD 0 [] = begL ++ name ++ d5:=rfl
   have ln:(begL ++ name ++ d5).length = 16 + name.length:=by
     simp only [List.length_append]
     show 11 + name.length + 5 = _
     omega
   have l1:(((begL ++ name ++ d5) :: (linesL (baseL b) ++ [endL ++ name ++ d5])).drop 1).dropLast = linesL (baseL b):=by
     show (linesL (baseL b) ++ [endL ++ name ++ d5]).dropLast = _
     rw [List.dropLast_concat]
   have l2:rnm (begL ++ name ++ d5) = name:=by
     unfold rnm
     rw [ln,List.append_assoc,show (begL ++ (name ++ d5)).drop 11 = name ++ d5 from List.drop_left (l₁:=begL),show 16 + name.length - 16 = name.length by omega,List.take_left]
   unfold runar
   rw [if_neg,l0,l1,l2,flat_lines,unb_base,if_pos ⟨rfl,h⟩]
   rintro (h9 | h9)
   · simp only [List.length_cons,List.length_append,List.length_nil] at h9
     omega
   · rw [l0,ln] at h9
     omega
 · have h1:(unarV t).2.2 ≠ 0:=fun h9 => h ⟨_,_,unar_ok h9⟩
   rw [unar_no h1]
   unfold runar
   split
   · rfl
   · rw [if_neg (fun h9 => h ⟨_,_,h9.2⟩)]
end Pm
namespace Pm
theorem nm_short {l:List UInt8} (h:l.length < 1):nameOk l = false:=by
 unfold nameOk
 rw [decide_eq_false (by omega)]
 rfl
theorem nm_long {l:List UInt8} (h:40 < l.length):nameOk l = false:=by
 unfold nameOk
 rw [decide_eq_false (p:=l.length <= 40) (by omega)]
 simp
theorem nm_head {l:List UInt8} (h:l.head? = some 32):nameOk l = false:=by
 unfold nameOk
 simp [h]
theorem nm_last {l:List UInt8} (h:l.getLast? = some 32):nameOk l = false:=by
 unfold nameOk
 simp [h]
theorem nm_bad {l:List UInt8} {c:UInt8} (h:c ∈ l) (hc:okC c = false):nameOk l = false:=by
 have h1:l.all okC = false:=by
   cases h2:l.all okC
   · rfl
   · have h3:=List.all_eq_true.1 h2 c h
     rw [hc] at h3
     cases h3
 unfold nameOk
 rw [h1]
 simp
theorem nm_good {l:List UInt8} (h1:1 <= l.length) (h2:l.length <= 40) (h3:l.all okC = true) (h4:l.head? ≠ some 32) (h5:l.getLast? ≠ some 32):nameOk l = true:=by
 unfold nameOk
 rw [decide_eq_true h1,decide_eq_true h2,h3,decide_eq_true h4,decide_eq_true h5]
 rfl
theorem okC_is (c:UInt8):okC c = true ↔ (65 <= c.toNat /\ c.toNat <= 90) ∨ (48 <= c.toNat /\ c.toNat <= 57) ∨ c.toNat = 32:=by
 unfold okC
 simp only [Bool.or_eq_true,Bool.and_eq_true,decide_eq_true_eq]
 omega
set_option maxHeartbeats 4000000 in
theorem rnamed_mk (s:ByteArray) (hm:s.size <= 100000):Mak 21 #[.string s] (.bool (nameOk s.data.toList)):=by
 intro w
 obtain ⟨l,hl⟩:∃ l,l = s.data.toList:=⟨_,rfl⟩
 have HL:=lH hl
 have HLN:=lH (show l.length = s.size by rw [hl]; rfl)
 rw [<- hl]
 have HS:=lH (Since.refl w)
 clear hl
 by_cases h1:s.size < 1
 · have HV:=lH (nm_short (l:=l) (by rw [HLN.out]; exact h1))
   go_enter Tryd.func21,Tryd.ntmps21
   go_wp2_with fail
   go_ret
   rw [HV.out]
   exact ⟨rfl,HS.out⟩
 by_cases h2:40 < s.size
 · have HV:=lH (nm_long (l:=l) (by rw [HLN.out]; exact h2))
   go_enter Tryd.func21,Tryd.ntmps21
   go_wp2_with fail
   go_ret
   rw [HV.out]
   exact ⟨rfl,HS.out⟩
 have i0:(0:Int) < (s.size:Int):=by omega
 have i00:0 < s.size:=by omega
 obtain ⟨c0,hc0⟩:∃ c,c = s[0]:=⟨_,rfl⟩
 have hh:l.head? = some c0:=by
   rw [List.head?_eq_getElem?,HL.out,List.getElem?_eq_getElem i00]
   rw [hc0]
   rfl
 by_cases h3:c0 = 32
 · have HV:=lH (nm_head (l:=l) (by rw [hh,h3]))
   have q1:((s[0].toNat:Int) == 32) = true:=by rw [<- hc0,h3]; rfl
   clear hc0 hh h3
   go_enter Tryd.func21,Tryd.ntmps21
   go_wp2_with fail
   go_ret
   rw [HV.out]
   exact ⟨rfl,HS.out⟩
 have q1:((s[0].toNat:Int) == 32) = false:=by
   rw [<- hc0]
   exact beq_eq_false_iff_ne.2 (fun h => h3 (UInt8.toNat_inj.1 (by show c0.toNat = 32; omega)))
 have HH:Hid (l.head? ≠ some 32):=lH (by rw [hh]; exact fun h => h3 (Option.some.inj h))
 clear hc0 hh h3
 obtain ⟨e,he⟩:∃ e,e = s.size - 1:=⟨_,rfl⟩
 have hes:e < s.size:=by omega
 have e1:IntKind.i64.wrap ((s.size:Int) - 1) = (e:Int):=by rw [IntWalk.i64_in _ (by omega)]; omega
 have e2:(s.size:Int) - 1 = (e:Int):=by omega
 have i1:(0:Int) <= (e:Int):=by omega
 have i2:(e:Int) < (s.size:Int):=by omega
 obtain ⟨c1,hc1⟩:∃ c,c = s[e]:=⟨_,rfl⟩
 have hh:l.getLast? = some c1:=by
   rw [List.getLast?_eq_getElem?,HLN.out,HL.out,<- he,List.getElem?_eq_getElem hes]
   rw [hc1]
   rfl
 by_cases h3:c1 = 32
 · have HV:=lH (nm_last (l:=l) (by rw [hh,h3]))
   have q2:((s[e].toNat:Int) == 32) = true:=by rw [<- hc1,h3]; rfl
   clear hc1 hh h3 he
   go_enter Tryd.func21,Tryd.ntmps21
   go_wp2_with fail
   go_ret
   rw [HV.out]
   exact ⟨rfl,HS.out⟩
 have q2:((s[e].toNat:Int) == 32) = false:=by
   rw [<- hc1]
   exact beq_eq_false_iff_ne.2 (fun h => h3 (UInt8.toNat_inj.1 (by show c1.toNat = 32; omega)))
 have HLA:Hid (l.getLast? ≠ some 32):=lH (by rw [hh]; exact fun h => h3 (Option.some.inj h))
 clear hc1 hh h3 he
 go_enter Tryd.func21,Tryd.ntmps21
 go_wp2_with fail
 go_loopw [3] (fun i wr => ∃ k:Nat,k <= s.size /\ i = .int .i64 (k:Int) /\ Hid ((l.take k).all okC = true) /\ Hid (Since w wr)) (fun i _ => s.size - (intOf i).toNat)
 case atStart => exact ⟨0,Nat.zero_le _,rfl,lH rfl,HS⟩
 case round =>
   clear HS
   obtain ⟨k,hk,rfl,HALL,HS⟩:=hrel
   by_cases hlt:k < s.size
   · have j1:(0:Int) <= (k:Int):=by omega
     have j2:(k:Int) < (s.size:Int):=by omega
     obtain ⟨c,hc⟩:∃ c,c = s[k]:=⟨_,rfl⟩
     have hcc:c.toNat = s[k].toNat:=by rw [hc]
     have HTK:Hid (l.take (k + 1) = l.take k ++ [c]):=lH (by
       rw [HL.out,List.take_succ_eq_append_getElem (by exact hlt),hc]
       rfl)
     have HMEM:Hid (c ∈ l):=lH (by rw [HL.out,hc]; exact List.getElem_mem (by exact hlt))
     rcases (show (s[k].toNat < 48 /\ s[k].toNat ≠ 32) ∨ s[k].toNat = 32 ∨ (48 <= s[k].toNat /\ s[k].toNat <= 57) ∨ (57 < s[k].toNat /\ s[k].toNat < 65) ∨ (65 <= s[k].toNat /\ s[k].toNat <= 90) ∨ 90 < s[k].toNat by omega) with ⟨h,g⟩ | h | ⟨h,g⟩ | ⟨h,g⟩ | ⟨h,g⟩ | h
     ·
       have HV:Hid (nameOk l = false):=lH (nm_bad HMEM.out (by
         cases ho:okC c
         · rfl
         · have:=(okC_is c).1 ho
           omega))
       have q3:((s[k].toNat:Int) != 32) = true:=by simp only [bne_iff_ne,ne_eq]; omega
       clear hc HALL HTK HMEM
       go_wp2_with fail
       go_ret
       rw [HV.out]
       exact ⟨rfl,HS.out⟩
     ·
       have HA2:Hid ((l.take (k + 1)).all okC = true):=lH (by
         rw [HTK.out,List.all_append,HALL.out]
         simp only [List.all_cons,List.all_nil,Bool.and_true,Bool.true_and]
         exact (okC_is c).2 (by omega))
       have q3:((s[k].toNat:Int) != 32) = false:=by simp only [bne_eq_false_iff_eq]; omega
       clear hc HALL HTK HMEM
       go_wp2_with fail
       go_roundw
       case rel => exact ⟨k + 1,by omega,by go_num,HA2,HS⟩
       case measure => (simp [intOf] <;> omega)
     ·
       have HA2:Hid ((l.take (k + 1)).all okC = true):=lH (by
         rw [HTK.out,List.all_append,HALL.out]
         simp only [List.all_cons,List.all_nil,Bool.and_true,Bool.true_and]
         exact (okC_is c).2 (by omega))
       have q3:((s[k].toNat:Int) != 32) = true:=by simp only [bne_iff_ne,ne_eq]; omega
       clear hc HALL HTK HMEM
       go_wp2_with fail
       go_roundw
       case rel => exact ⟨k + 1,by omega,by go_num,HA2,HS⟩
       case measure => (simp [intOf] <;> omega)
     ·
       have HV:Hid (nameOk l = false):=lH (nm_bad HMEM.out (by
         cases ho:okC c
         · rfl
         · have:=(okC_is c).1 ho
           omega))
       have q3:((s[k].toNat:Int) != 32) = true:=by simp only [bne_iff_ne,ne_eq]; omega
       clear hc HALL HTK HMEM
       go_wp2_with fail
       go_ret
       rw [HV.out]
       exact ⟨rfl,HS.out⟩
     ·
       have HA2:Hid ((l.take (k + 1)).all okC = true):=lH (by
         rw [HTK.out,List.all_append,HALL.out]
         simp only [List.all_cons,List.all_nil,Bool.and_true,Bool.true_and]
         exact (okC_is c).2 (by omega))
       have q3:((s[k].toNat:Int) != 32) = true:=by simp only [bne_iff_ne,ne_eq]; omega
       clear hc HALL HTK HMEM
       go_wp2_with fail
       go_roundw
       case rel => exact ⟨k + 1,by omega,by go_num,HA2,HS⟩
       case measure => (simp [intOf] <;> omega)
     ·
       have HV:Hid (nameOk l = false):=lH (nm_bad HMEM.out (by
         cases ho:okC c
         · rfl
         · have:=(okC_is c).1 ho
           omega))
       have q3:((s[k].toNat:Int) != 32) = true:=by simp only [bne_iff_ne,ne_eq]; omega
       clear hc HALL HTK HMEM
       go_wp2_with fail
       go_ret
       rw [HV.out]
       exact ⟨rfl,HS.out⟩
   · obtain rfl:k = s.size:=by omega
     have HV:Hid (nameOk l = true):=lH (nm_good (by rw [HLN.out]; omega) (by rw [HLN.out]; omega) (by have h9:=HALL.out; rwa [List.take_of_length_le (by rw [HLN.out]; exact Nat.le_refl _)] at h9) HH.out HLA.out)
     go_wp2_with fail
     go_ret
     rw [HV.out]
     exact ⟨rfl,HS.out⟩
end Pm
end Go.Proofs.YtagmgldibjjeeaaDoor
