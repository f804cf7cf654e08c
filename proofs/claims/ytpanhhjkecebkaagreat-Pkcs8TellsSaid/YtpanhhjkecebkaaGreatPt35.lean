import Derived.Test.YtpanhhjkecebkaaGreatPt4
import Derived.Lib.IndexLaws
import Derived.BigQuiet
import Derived.Shelf.RegionOpen
import Derived.OwnWalkIn
import Derived.LoopNIn
import Derived.LoopIn
import Derived.Test.YtpanhhjkecebkaaGreatPt29
import Derived.Test.YtpanhhjkecebkaaGreatPt1
set_option maxRecDepth 100000
namespace Go.Proofs.YtpanhhjkecebkaaGreat
open Go.RowKit
namespace Cut
def At (l:List UInt8) (c:UInt8) (k:Nat):Prop:=l[k]? = some c /\ ∀ j,j < k -> l[j]? ≠ some c
end Cut
end Go.Proofs.YtpanhhjkecebkaaGreat
set_option maxRecDepth 100000
namespace Go.Proofs.YtpanhhjkecebkaaGreat
open Go.RowKit Go.Shelf
attribute [local go_sem] Oper.semAt_some
namespace Oid
abbrev A31:={ x:Int // -1 <= x /\ x <= 2147483647 }
def bad31:A31:=⟨-1,by decide⟩
def ns:List UInt8 -> Nat -> Bool -> List A31
 | [],_,b => if b then [bad31] else []
 | c :: cs,n,b =>
   if h:(b = false /\ c.toNat = 128) ∨ 16777215 < n then [bad31]
   else if 128 <= c.toNat then ns cs (n * 128 + c.toNat % 128) true
   else ⟨((n * 128 + c.toNat % 128:Nat):Int),by have:=(not_or.1 h).2; omega⟩ :: ns cs 0 false
def cons:List A31 -> List Int -> Option (List Int)
 | [],l => some l
 | x :: xs,l => if x.1 < 0 ∨ l.length = 20 then none else cons xs (push l x.1.toNat)
theorem cons_ns (cs:List UInt8):∀ (n:Nat) (b:Bool) (l:List Int),cons (ns cs n b) l = pd cs n b l:=by
 induction cs with
 | nil =>
   intro n b l;cases b with
   | true => simp [ns,pd,cons,bad31]
   | false => simp [ns,pd,cons]
 | cons c cs ih =>
   intro n b l;unfold ns pd
   by_cases hA:(b = false /\ c.toNat = 128) ∨ 16777215 < n
   · rw [dif_pos hA,if_pos hA]; simp [cons,bad31]
   · rw [dif_neg hA,if_neg hA]
     by_cases hB:128 <= c.toNat
     · rw [if_pos hB,if_pos hB]; exact ih _ _ _
     · rw [if_neg hB,if_neg hB];unfold cons
       by_cases hl:l.length = 20
       · rw [if_pos (Or.inr hl),if_pos hl]
       · have h0:¬ ((n * 128 + c.toNat % 128:Nat):Int) < 0:=by omega
         rw [if_neg (by rintro (h | h); exact h0 h; exact hl h),if_neg hl];exact ih _ _ _
theorem cons_app (xs ys:List A31):∀ l:List Int,cons (xs ++ ys) l = (cons xs l).bind (cons ys):=by
 induction xs with
 | nil => intro l; rfl
 | cons x xs ih =>
   intro l;rw [List.cons_append];unfold cons
   by_cases h:x.1 < 0 ∨ l.length = 20
   · rw [if_pos h,if_pos h]; rfl
   · rw [if_neg h,if_neg h]; exact ih _
theorem cons_pre (xs ys:List A31) (l:List Int) (h:xs <+: ys) (hn:cons xs l = none):cons ys l = none:=by
 obtain ⟨t,rfl⟩:=h;rw [cons_app,hn]; rfl
theorem numbers_ret (c:ByteArray) (w:World):Calls Tryz.prog 107 #[.string c] w fun e w' => e = .returned (.func (.func 138) #[] #[.pointer (some ⟨w.heap.size,0,none⟩)]) /\ w' = w.alloc (.cells #[.string c] 9):=by
 go_enter Tryz.func107,Tryz.ntmps107
 go_wp2_with fail;go_ret;exact ⟨rfl,rfl⟩
theorem and127_nat (c:Nat) (h:c < 256):bits .and .u8 (c:Int) 127 = (c:Int) % 128:=by
 have h1:=u8_and_nat c 127 h (by decide);rw [nat_mask7] at h1;rw [show ((127:Nat):Int) = 127 from rfl] at h1;rw [h1]; omega
set_option maxHeartbeats 4000000 in
theorem nums_in (n9:Nat) (hn9:1 <= n9) (l Bn:Nat) (c:ByteArray) (hm:c.size <= 1000000) (J Jx:List A31 -> World -> Prop)
   (hY:∀ pre x W,J pre W -> pre.length < (ns c.data.toList 0 false).length -> YieldAt Fence.wide (n9 - 1) Tryz.prog l #[.int .i64 x.1] W fun e W' =>
     (e = .returned (.bool true) /\ J (pre ++ [x]) W' /\ W'.heap[Bn]? = W.heap[Bn]?) ∨ (e = .returned (.bool false) /\ Jx (pre ++ [x]) W'))
   (W:World) (hB:Boxed W Bn 9 (.string c)) (h0:J [] W) :
   CallsIn Fence.wide n9 Tryz.prog 138 #[.func (.yield l) #[] #[],.pointer (some ⟨Bn,0,none⟩)] W fun e W' => (∃ v,e = .returned v) /\
     ((∃ ys,ys = ns c.data.toList 0 false /\ J ys W') ∨ (∃ pre,pre <+: ns c.data.toList 0 false /\ Jx pre W')):=by
 obtain ⟨T,hT⟩:∃ T,T = ns c.data.toList 0 false:=⟨_,rfl⟩
 rw [<- hT] at hY ⊢;have HT:=lH hT;have HY:=lH hY;have HB:=lH hB;have hcB:=hB.cell;clear hT hY hB;refine callsIn_of_wp Tryz.func138 rfl trivial ?_ rfl;simp only [Tryz.ntmps138,List.size_toArray,List.length_cons,List.length_nil,Nat.reduceAdd,Nat.reduceSub,Array.replicate_succ,Array.replicate_zero,List.push_toArray,List.append_toArray,List.nil_append,List.cons_append]
 gi_wp2
 clear hcB
 gi_loopw [3,4,8] (fun nn bb i wr => ∃ (k n:Nat) (b:Bool) (pre:List A31),k <= c.size /\ n <= 2147483647 /\ i = .int .i64 (k:Int) /\ nn = .int .i64 (n:Int) /\ bb = .bool b /\ Hid (T = pre ++ ns (c.data.toList.drop k) n b) /\ Hid (J pre wr) /\ Hid (Boxed wr Bn 9 (.string c)))
   (fun _ _ i _ => c.size - (intOf i).toNat)
 case atStart => exact ⟨0,0,false,[],by omega,by omega,rfl,rfl,rfl,HT,lH h0,HB⟩
 case round =>
   clear h0 HT HB;obtain ⟨k,n,b,pre,hk,hn,rfl,rfl,rfl,HT,HJ,HB⟩:=hrel;have hcB:=HB.out.cell
   by_cases hlt:k < c.size
   · have hst:=HT.out;rw [drop_at c k hlt] at hst;simp only [ns] at hst;have hc9:=c[k].toNat_lt;cases b with
     | false =>
       by_cases h128:c[k].toNat = 128
       · have t1:((c[k].toNat:Int) == 128) = true:=by rw [beq_iff_eq]; omega
         rw [dif_pos (Or.inl ⟨rfl,h128⟩)] at hst;obtain ⟨fn,tmps,assign,body,hy,hR⟩:=HY.out pre bad31 wr HJ.out (by rw [hst]; simp);dsimp only [bad31] at hy;have Hst:=lH hst;clear hst
         gi_wp2
         refine hR.mono ?_;rintro e W3 (⟨rfl,hJ3,hk3⟩ | ⟨rfl,hJx3⟩)
         · have HJ3:=lH hJ3;clear hJ3;clear hk3
           gi_wp2
           refine bodyPost_ret (results_none rfl _ _ _) rfl ?_;exact ⟨⟨_,rfl⟩,.inl ⟨_,Hst.out.symm,HJ3.out⟩⟩
         · have HJx3:=lH hJx3;clear hJx3
           gi_wp2
           refine bodyPost_ret (results_none rfl _ _ _) rfl ?_;exact ⟨⟨_,rfl⟩,.inr ⟨_,⟨[],by rw [List.append_nil]; exact Hst.out.symm⟩,HJx3.out⟩⟩
       · have t1:((c[k].toNat:Int) == 128) = false:=by rw [beq_eq_false_iff_ne]; omega
         by_cases hn2:16777215 < n
         · have t2:decide ((16777215:Int) < (n:Int)) = true:=decide_eq_true (by omega);rw [dif_pos (Or.inr hn2)] at hst;obtain ⟨fn,tmps,assign,body,hy,hR⟩:=HY.out pre bad31 wr HJ.out (by rw [hst]; simp);dsimp only [bad31] at hy;have Hst:=lH hst;clear hst
           gi_wp2
           refine hR.mono ?_;rintro e W3 (⟨rfl,hJ3,hk3⟩ | ⟨rfl,hJx3⟩)
           · have HJ3:=lH hJ3;clear hJ3;clear hk3
             gi_wp2
             refine bodyPost_ret (results_none rfl _ _ _) rfl ?_;exact ⟨⟨_,rfl⟩,.inl ⟨_,Hst.out.symm,HJ3.out⟩⟩
           · have HJx3:=lH hJx3;clear hJx3
             gi_wp2
             refine bodyPost_ret (results_none rfl _ _ _) rfl ?_;exact ⟨⟨_,rfl⟩,.inr ⟨_,⟨[],by rw [List.append_nil]; exact Hst.out.symm⟩,HJx3.out⟩⟩
         · have t2:decide ((16777215:Int) < (n:Int)) = false:=decide_eq_false (by omega);rw [dif_neg (by omega)] at hst;obtain ⟨m,hmm⟩:∃ m,m = n * 128 + c[k].toNat % 128:=⟨_,rfl⟩
           have B1:=and127_nat c[k].toNat (by omega);have B2:bits .or .i64 ((n:Int) * 128) ((c[k].toNat:Int) % 128) = (m:Int):=by
             have h:=i64_or_low n (c[k].toNat % 128) (by omega) (by omega);rw [<- hmm] at h;rw [<- h]
             congr 1
           have hm9:m <= 2147483647:=by omega
           by_cases hB8:128 <= c[k].toNat
           · have t3:decide ((128:Int) <= (c[k].toNat:Int)) = true:=decide_eq_true (by omega);rw [if_pos hB8] at hst;rw [<- hmm] at hst;have Hst:=lH hst;clear hst;clear hmm
             gi_wp2
             go_roundw
             case rel => exact ⟨k + 1,m,true,pre,by omega,hm9,by go_num,rfl,rfl,Hst,HJ,HB⟩
             case measure => simp [intOf]; omega
           · have t3:decide ((128:Int) <= (c[k].toNat:Int)) = false:=decide_eq_false (by omega);rw [if_neg hB8] at hst;obtain ⟨x,hx⟩:∃ x:A31,x.1 = (m:Int):=⟨⟨(m:Int),by omega⟩,rfl⟩
             have hst2:T = (pre ++ [x]) ++ ns (c.data.toList.drop (k + 1)) 0 false:=by
               rw [hst,List.append_assoc]
               congr 2
               exact Subtype.ext (by rw [hx,hmm])
             obtain ⟨fn,tmps,assign,body,hy,hR⟩:=HY.out pre x wr HJ.out (by rw [hst2]; simp);rw [hx] at hy;clear hst hx hmm;have Hst2:=lH hst2;clear hst2
             gi_wp2
             refine hR.mono ?_;rintro e W3 (⟨rfl,hJ3,hk3⟩ | ⟨rfl,hJx3⟩)
             · have HB3:Hid (Boxed W3 Bn 9 (.string c)):=lH (hk3.trans HB.out);have HJ3:=lH hJ3;clear hJ3;clear hk3
               gi_wp2
               go_roundw
               case rel => exact ⟨k + 1,0,false,pre ++ [x],by omega,by omega,by go_num,rfl,rfl,Hst2,HJ3,HB3⟩
               case measure => simp [intOf]; omega
             · have HJx3:=lH hJx3;clear hJx3
               gi_wp2
               refine bodyPost_ret (results_none rfl _ _ _) rfl ?_;exact ⟨⟨_,rfl⟩,.inr ⟨_,⟨_,Hst2.out.symm⟩,HJx3.out⟩⟩
     | true =>
       by_cases hn2:16777215 < n
       · have t2:decide ((16777215:Int) < (n:Int)) = true:=decide_eq_true (by omega);rw [dif_pos (Or.inr hn2)] at hst;obtain ⟨fn,tmps,assign,body,hy,hR⟩:=HY.out pre bad31 wr HJ.out (by rw [hst]; simp);dsimp only [bad31] at hy;have Hst:=lH hst;clear hst
         gi_wp2
         refine hR.mono ?_;rintro e W3 (⟨rfl,hJ3,hk3⟩ | ⟨rfl,hJx3⟩)
         · have HJ3:=lH hJ3;clear hJ3;clear hk3
           gi_wp2
           refine bodyPost_ret (results_none rfl _ _ _) rfl ?_;exact ⟨⟨_,rfl⟩,.inl ⟨_,Hst.out.symm,HJ3.out⟩⟩
         · have HJx3:=lH hJx3;clear hJx3
           gi_wp2
           refine bodyPost_ret (results_none rfl _ _ _) rfl ?_;exact ⟨⟨_,rfl⟩,.inr ⟨_,⟨[],by rw [List.append_nil]; exact Hst.out.symm⟩,HJx3.out⟩⟩
       · have t2:decide ((16777215:Int) < (n:Int)) = false:=decide_eq_false (by omega);rw [dif_neg (by simp; omega)] at hst;obtain ⟨m,hmm⟩:∃ m,m = n * 128 + c[k].toNat % 128:=⟨_,rfl⟩
         have B1:=and127_nat c[k].toNat (by omega);have B2:bits .or .i64 ((n:Int) * 128) ((c[k].toNat:Int) % 128) = (m:Int):=by
           have h:=i64_or_low n (c[k].toNat % 128) (by omega) (by omega);rw [<- hmm] at h;rw [<- h]
           congr 1
         have hm9:m <= 2147483647:=by omega
         by_cases hB8:128 <= c[k].toNat
         · have t3:decide ((128:Int) <= (c[k].toNat:Int)) = true:=decide_eq_true (by omega);rw [if_pos hB8] at hst;rw [<- hmm] at hst;have Hst:=lH hst;clear hst;clear hmm
           gi_wp2
           go_roundw
           case rel => exact ⟨k + 1,m,true,pre,by omega,hm9,by go_num,rfl,rfl,Hst,HJ,HB⟩
           case measure => simp [intOf]; omega
         · have t3:decide ((128:Int) <= (c[k].toNat:Int)) = false:=decide_eq_false (by omega);rw [if_neg hB8] at hst;obtain ⟨x,hx⟩:∃ x:A31,x.1 = (m:Int):=⟨⟨(m:Int),by omega⟩,rfl⟩
           have hst2:T = (pre ++ [x]) ++ ns (c.data.toList.drop (k + 1)) 0 false:=by
             rw [hst,List.append_assoc]
             congr 2
             exact Subtype.ext (by rw [hx,hmm])
           obtain ⟨fn,tmps,assign,body,hy,hR⟩:=HY.out pre x wr HJ.out (by rw [hst2]; simp);rw [hx] at hy;clear hst hx hmm;have Hst2:=lH hst2;clear hst2
           gi_wp2
           refine hR.mono ?_;rintro e W3 (⟨rfl,hJ3,hk3⟩ | ⟨rfl,hJx3⟩)
           · have HB3:Hid (Boxed W3 Bn 9 (.string c)):=lH (hk3.trans HB.out);have HJ3:=lH hJ3;clear hJ3;clear hk3
             gi_wp2
             go_roundw
             case rel => exact ⟨k + 1,0,false,pre ++ [x],by omega,by omega,by go_num,rfl,rfl,Hst2,HJ3,HB3⟩
             case measure => simp [intOf]; omega
           · have HJx3:=lH hJx3;clear hJx3
             gi_wp2
             refine bodyPost_ret (results_none rfl _ _ _) rfl ?_;exact ⟨⟨_,rfl⟩,.inr ⟨_,⟨_,Hst2.out.symm⟩,HJx3.out⟩⟩
   · have hst:=HT.out;rw [drop_end c k (by omega)] at hst;cases b with
     | false =>
       simp only [ns,Bool.false_eq_true,if_false,List.append_nil] at hst;have Hst:=lH hst;clear hst
       gi_wp2
       go_end0
       exact ⟨⟨_,rfl⟩,.inl ⟨pre,Hst.out.symm,HJ.out⟩⟩
     | true =>
       simp only [ns,if_true] at hst;obtain ⟨fn,tmps,assign,body,hy,hR⟩:=HY.out pre bad31 wr HJ.out (by rw [hst]; simp);dsimp only [bad31] at hy;have Hst:=lH hst;clear hst
       gi_wp2
       refine hR.mono ?_;rintro e W3 (⟨rfl,hJ3,hk3⟩ | ⟨rfl,hJx3⟩)
       · have HJ3:=lH hJ3;clear hJ3;clear hk3
         gi_wp2
         go_end0
         exact ⟨⟨_,rfl⟩,.inl ⟨_,Hst.out.symm,HJ3.out⟩⟩
       · have HJx3:=lH hJx3;clear hJx3
         gi_wp2
         go_end0
         exact ⟨⟨_,rfl⟩,.inr ⟨_,⟨[],by rw [List.append_nil]; exact Hst.out.symm⟩,HJx3.out⟩⟩
end Oid
end Go.Proofs.YtpanhhjkecebkaaGreat
namespace Go.Proofs.YtpanhhjkecebkaaGreat
open Go.RowKit Go.Shelf
attribute [local go_sem] Oper.semAt_some
theorem Boxed_past {W w1:World} {n0 B:Nat} {t e:TypeId} {size:Nat} {u v:Value} {k:Nat} {xs:List Value} {tmp:Obj} (h:Boxed W B t u) (hte:t ≠ e) (hrow:W.ownsRow n0 e size v k xs) (hg:(W.alloc tmp).grownBy w1 v.ownBlock):Boxed w1 B t u :=
 (h.alloc tmp).kept hg (h.not_row hte hrow)
theorem Boxed_turn {W W':World} {row:Option Nat} {B:Nat} {t:TypeId} {v:Value} (h:Boxed W B t v) (hg:W.grownBy W' row) (hr:∀ r,row = some r -> ∃ o:Obj,W.heap[r]? = some o /\ o.isCells = false):Boxed W' B t v :=
 h.kept hg (fun e => by obtain ⟨o,ho,hc⟩:=hr B e.symm; rw [show W.heap[B]? = _ from h] at ho; cases ho; cases hc)
theorem Row_turn {W W':World} {row:Option Nat} {base size n:Nat} {e:TypeId} {v:Value} {xs:List Value} (h:W.ownsRow base e size v n xs) (hg:W.grownBy W' row) (hr:∀ r,row = some r -> ∃ o:Obj,W.heap[r]? = some o /\ o.isCells = false):W'.ownsRow base e size v n xs:=by
 refine h.kept hg ?_;rcases h.2 with ⟨rfl,_⟩ | ⟨g,cap,cur,rfl,_,hgb,_⟩
 · exact .inl rfl
 · refine .inr fun e' => ?_
   obtain ⟨o,ho,hc⟩:=hr g (by simpa [Value.ownBlock] using e'.symm);rw [hgb] at ho; cases ho; cases hc
namespace Oid
structure Sta (b0:Nat) (C:Value) (W:World) (v:Value) (l:List Int):Prop where
 r0:Boxed W b0 44 (.slice none 0 0)
 r1:Boxed W (b0 + 1) 4 (.bool false)
 bx:Boxed W (b0 + 1 + 1) 44 v
 cx:Boxed W (b0 + 1 + 1 + 1) 9 C
 row:W.ownsRow b0 3 1 v l.length (l.map (Value.int .i64))
theorem Sta.turn {b0:Nat} {C:Value} {W W':World} {v:Value} {l:List Int} {row:Option Nat} (h:Sta b0 C W v l) (hg:W.grownBy W' row) (hr:∀ r,row = some r -> ∃ o:Obj,W.heap[r]? = some o /\ o.isCells = false):Sta b0 C W' v l :=
 ⟨Boxed_turn h.r0 hg hr,Boxed_turn h.r1 hg hr,Boxed_turn h.bx hg hr,Boxed_turn h.cx hg hr,Row_turn h.row hg hr⟩
theorem Sta.read {b0:Nat} {C:Value} {W:World} {v:Value} {l:List Int} (h:Sta b0 C W v l):IntsS W v l:=SlR.own h.row
theorem Sta.app {b0:Nat} {C:Value} {W w1:World} {v v':Value} {l:List Int} {x:Int} {tmp:Obj} (h:Sta b0 C W v l) (hb:b0 <= W.heap.size) (hown:w1.ownsRow b0 3 1 v' (l.length + 1) (l.map (Value.int .i64) ++ [.int .i64 x])) (hg:(W.alloc tmp).grownBy w1 v.ownBlock) :
   Sta b0 C (w1.setCell ⟨b0 + 1 + 1,0,none⟩ v') v' (l ++ [x]) /\ KeepsOthers W (w1.setCell ⟨b0 + 1 + 1,0,none⟩ v') /\ Below b0 W (w1.setCell ⟨b0 + 1 + 1,0,none⟩ v'):=by
 obtain ⟨_,a2,a3,a4,a5⟩:=Boxed.appended h.bx (by decide) h.row hb (by omega) hown hg;refine ⟨⟨(Boxed_past h.r0 (by decide) h.row hg).other (by omega) _,(Boxed_past h.r1 (by decide) h.row hg).other (by omega) _,a2,(Boxed_past h.cx (by decide) h.row hg).other (by omega) _, ?_⟩,a4,a5⟩;rw [List.length_append,List.map_append]; exact a3
theorem cons_snoc (pre:List A31) (x:A31) (l:List Int) (h:cons pre [] = some l):cons (pre ++ [x]) [] = if x.1 < 0 ∨ l.length = 20 then none else some (push l x.1.toNat):=by
 rw [cons_app,h];rfl
theorem pre_len (pre:List A31):∀ l,cons pre [] = some l -> l.length <= 20:=by
 have h:∀ (pre:List A31) (m:List Int),m.length <= 20 -> ∀ l,cons pre m = some l -> l.length <= 20:=by
   intro pre
   induction pre with
   | nil => intro m hm l hl; cases hl; exact hm
   | cons x xs ih =>
     intro m hm l hl;unfold cons at hl
     by_cases h:x.1 < 0 ∨ m.length = 20
     · rw [if_pos h] at hl; cases hl
     · rw [if_neg h] at hl;refine ih _ ?_ l hl;rw [push_len];have:m.length ≠ 20:=fun h9 => h (Or.inr h9)
       split <;> omega
 exact h pre [] (by simp)
theorem Boxed_row2 {W:World} {base n b b':Nat} {e t t':TypeId} {v u u':Value} {xs:List Value} (h:W.ownsRow base e 1 v n xs) (h1:Boxed W b t u) (h2:Boxed W b' t' u') (ht:t ≠ e) (ht':t' ≠ e) (x x':Value) (hne:b' ≠ b) :
   ((W.setCell ⟨b,0,none⟩ x).setCell ⟨b',0,none⟩ x').ownsRow base e 1 v n xs:=by
 have s1:(W.setCell ⟨b,0,none⟩ x).ownsRow base e 1 v n xs:=h.kept (grownBy_setCell' W b x) (.inr (h1.not_row ht h).symm);exact s1.kept (grownBy_setCell' _ b' x') (.inr ((h2.other hne x).not_row ht' s1).symm)
set_option maxHeartbeats 4000000 in
theorem decode_in (c:ByteArray) (hm:c.size <= 1000000) (xs:List Int) (q:Bool) (hx:xs = decL c.data.toList) (hq:q = decB c.data.toList) (w:World) :
   CallsIn Fence.wide 9 Tryz.prog 61 #[.string c] w fun e w' => ∃ v,e = .returned (.tuple #[v,.bool q]) /\ IntsS w' v xs /\ Below w.heap.size w w':=by
 have HXS:=lH hx;have HQ:=lH hq;have HM:=lH hm;clear hx hq hm;refine callsIn_of_wp_marks Tryz.func61 rfl trivial ?_ rfl;simp only [Tryz.ntmps61,List.size_toArray,List.length_cons,List.length_nil,Nat.reduceAdd,Nat.reduceSub,Array.replicate_succ,Array.replicate_zero,List.push_toArray,List.append_toArray,List.nil_append,List.cons_append];have hB0:Below w.heap.size w ((((w.alloc (.cells #[.slice none 0 0] 44)).alloc (.cells #[.bool false] 4)).alloc (.cells #[.slice none 0 0] 44)).alloc (.cells #[.string c] 9)) :=
   ((((Below.refl _ w).alloc (Nat.le_refl _) _).alloc (by simp) _).alloc (by simp; omega) _).alloc (by simp; omega) _
 have hS0:Sta w.heap.size (.string c) ((((w.alloc (.cells #[.slice none 0 0] 44)).alloc (.cells #[.bool false] 4)).alloc (.cells #[.slice none 0 0] 44)).alloc (.cells #[.string c] 9)) (.slice none 0 0) []:=by
   have q0:=Boxed.new w 44 (.slice none 0 0);have q1:=Boxed.new (w.alloc (.cells #[.slice none 0 0] 44)) 4 (.bool false);have q2:=Boxed.new ((w.alloc (.cells #[.slice none 0 0] 44)).alloc (.cells #[.bool false] 4)) 44 (.slice none 0 0);have q3:=Boxed.new (((w.alloc (.cells #[.slice none 0 0] 44)).alloc (.cells #[.bool false] 4)).alloc (.cells #[.slice none 0 0] 44)) 9 (.string c);simp only [World.size_alloc] at q1 q2 q3;exact ⟨((q0.alloc _).alloc _).alloc _,(q1.alloc _).alloc _,q2.alloc _,q3,World.ownsRow_nil _ _ _ _⟩
 have hsz:((((w.alloc (.cells #[.slice none 0 0] 44)).alloc (.cells #[.bool false] 4)).alloc (.cells #[.slice none 0 0] 44)).alloc (.cells #[.string c] 9)).heap.size = w.heap.size + 1 + 1 + 1 + 1:=by simp
 have HB0:=lH hB0;clear hB0;have HS0:=lH hS0;clear hS0;have Hsz:=lH hsz;clear hsz
 gi_wp2_with (refine ⟨trivial, ?_⟩; gi_at_call 107; refine (callsIn_wide.2 (numbers_ret c _)).mono ?_; rintro e w' ⟨rfl,rfl⟩)
 obtain ⟨W0,hW0⟩:∃ W0,W0 = ((((w.alloc (.cells #[.slice none 0 0] 44)).alloc (.cells #[.bool false] 4)).alloc (.cells #[.slice none 0 0] 44)).alloc (.cells #[.string c] 9)):=⟨_,rfl⟩
 rw [<- hW0] at HB0 HS0 Hsz ⊢;clear hW0;have hz:=Hsz.out;refine wpIn_rangeFunc_ownG (n:=9) rfl (by decide) (gf:=138) (lb:=#[.pointer (some ⟨w.heap.size + 1 + 1 + 1,0,none⟩)]) rfl trivial (enters_of Tryz.func138 (by kernel_rfl) rfl)
   (encs:=fun x:A31 => #[.int .i64 x.1]) (Kp:=fun W W' => W'.heap[w.heap.size + 1 + 1 + 1]? = W.heap[w.heap.size + 1 + 1 + 1]?) (S:=fun ys => ys = ns c.data.toList 0 false) (Sp:=fun pre => pre <+: ns c.data.toList 0 false) (N:=(ns c.data.toList 0 false).length) (w0:=W0)
   ?seq ?kt ?kb (Below.refl _ _) (fun _ => rfl)
   (fun pre W => (∃ l v,cons pre [] = some l /\ Sta w.heap.size (.string c) W v l) /\ Below w.heap.size w W)
   (fun cd pre W => (cd = .ret /\ cons pre [] = none /\ Boxed W w.heap.size 44 (.slice none 0 0) /\ Boxed W (w.heap.size + 1) 4 (.bool false)) /\ Below w.heap.size w W)
   (OwnFrom.and (Own.from (fun s A B row ⟨l,v,h1,h2⟩ hg hr => ⟨l,v,h1,h2.turn hg hr⟩) _) (ownFrom_below (Nat.le_refl _) (by omega)))
   (fun cd => OwnFrom.and (Own.from (fun s A B row hs hg hr => ⟨hs.1,hs.2.1,Boxed_turn hs.2.2.1 hg hr,Boxed_turn hs.2.2.2 hg hr⟩) _) (ownFrom_below (Nat.le_refl _) (by omega)))
   ⟨⟨[],_,rfl,HS0.out⟩,HB0.out⟩
   (fun x => { tmps:=#[.string c,undef,.pointer (some ⟨w.heap.size,0,none⟩),.pointer (some ⟨w.heap.size + 1,0,none⟩),.pointer (some ⟨w.heap.size + 1 + 1,0,none⟩),.int .i64 x.1,undef,.string c,.func (.func 138) #[] #[.pointer (some ⟨w.heap.size + 1 + 1 + 1,0,none⟩)],.int .i64 x.1,undef,undef,undef,undef,undef,undef,undef,undef,undef,undef,undef,undef,undef,undef,undef,undef,undef,undef,undef,undef,undef,undef,undef,undef,undef,undef,undef,undef,undef],defers:=[] }) ?assign ?body ?done ?stop
 case kt => exact fun h k => k.trans h
 case kb => exact fun W l o o' hl _ _ _ => World.putObj_heap_other (by omega)
 case seq =>
   exact fun l J Jx W hW _ _ hY h0 => nums_in 8 (by decide) l _ c HM.out J Jx hY W ((hW.block _ (by omega)).trans HS0.out.cx) h0
 case assign =>
   intro l x W K hK
   gi_wp2
   exact hK
 case body =>
   rintro l pre ⟨x,hx⟩ W ⟨⟨L,v,hcons,hS⟩,hB⟩ hlt;have hcn:=cons_snoc pre ⟨x,hx⟩ L hcons;dsimp only at hcn ⊢;have hz2:=hB.size;have g0:=hS.r0.cell;have g1:=hS.r0.frozen;have g2:=hS.r1.cell;have g3:=hS.r1.frozen;have g4:=hS.bx.cell;have g5:=hS.bx.frozen;obtain ⟨hx0,hx1⟩:=hx
   by_cases hneg:x < 0
   · have t1:decide (x < 0) = true:=decide_eq_true hneg;rw [if_pos (Or.inl hneg)] at hcn;have HS:=lH hS;clear hS;have HB:=lH hB;clear hB;have Hcons:=lH hcons;clear hcons;have Hcn:=lH hcn;clear hcn;clear hneg
     gi_wp2
     refine ⟨((KeepsOthers.setCell _ _ _).trans (KeepsOthers.setCell _ _ _)).from _,⟨rfl,Hcn.out, ?_, ?_⟩,(HB.out.setCell (p:=⟨w.heap.size,0,none⟩) (Nat.le_refl _) _).setCell (p:=⟨w.heap.size + 1,0,none⟩) (by simp) _⟩
     · exact (HS.out.r0.set _).other (by omega) _
     · exact (HS.out.r1.other (by omega) _).set _
   · have t1:decide (x < 0) = false:=decide_eq_false hneg;obtain ⟨A,cap,rfl⟩:∃ A c,v = .slice A L.length c:=by
       rcases hS.row.2 with ⟨rfl,h0⟩ | ⟨g,cap,cur,rfl,_⟩
       · exact ⟨_,_,by rw [h0]⟩
       · exact ⟨_,_,rfl⟩
     obtain ⟨i0,hi,hz0,hz1,hz2⟩:=info_parts elemI.hi
     by_cases h20:L.length = 20
     · have t2:((L.length:Int) == 20) = true:=by rw [beq_iff_eq]; omega
       rw [if_pos (Or.inr h20)] at hcn;have HS:=lH hS;clear hS;have HB:=lH hB;clear hB;have Hcons:=lH hcons;clear hcons;have Hcn:=lH hcn;clear hcn;clear hneg h20 hi hz0 hz1 hz2
       gi_wp2
       refine ⟨((KeepsOthers.setCell _ _ _).trans (KeepsOthers.setCell _ _ _)).from _,⟨rfl,Hcn.out, ?_, ?_⟩,(HB.out.setCell (p:=⟨w.heap.size,0,none⟩) (Nat.le_refl _) _).setCell (p:=⟨w.heap.size + 1,0,none⟩) (by simp) _⟩
       · exact (HS.out.r0.set _).other (by omega) _
       · exact (HS.out.r1.other (by omega) _).set _
     · have t2:((L.length:Int) == 20) = false:=by rw [beq_eq_false_iff_ne]; omega
       rw [if_neg (by rintro (h | h); exact hneg h; exact h20 h)] at hcn;have hL20:L.length <= 20:=by
         have:=pre_len pre L hcons;omega
       by_cases h0:L.length = 0
       · have hL:L = []:=List.eq_nil_of_length_eq_zero h0;subst hL;obtain ⟨f,hf⟩:∃ f:Int,f = min (x / 40) 2:=⟨_,rfl⟩
         have hmin:=hf.symm;have hf1:0 <= f /\ f <= 2 /\ 40 * f <= x:=by omega
         have hpu:push [] x.toNat = [f,x - 40 * f]:=by
           rw [push,if_pos rfl];have e1:((min (x.toNat / 40) 2:Nat):Int) = f:=by omega
           have e2:((x.toNat - 40 * min (x.toNat / 40) 2:Nat):Int) = x - 40 * f:=by omega
           rw [e1,e2]
         rw [hpu] at hcn;have Hcons:=lH hcons;clear hcons;have Hcn:=lH hcn;clear hcn;clear hneg h20 hf hpu h0
         gi_wp2_with (gi_at_builtin; refine wpListIn_append_own _ rfl _ _ 44 rfl w.heap.size 3 i0 (.int .i64 0) 1 8 Tryz.underlying44 hi hz0 hz1 hz2 rfl (by decide) _ _ _ rfl (hS.row.alloc _) ⟨W.heap.size,0,none⟩ 1 1 [.int .i64 f] rfl rfl (cell_one_new _ _ _) (by simp [Value.oneCell']) (by unfold maxLen; simp) (by simp) (by simp; omega) ?_)
         intro v1 w1 hown1 hgrow1 _;obtain ⟨g',cap',rfl⟩:=ownsRow_succ hown1;have hb1:=Boxed_past hS.bx (by decide) hS.row hgrow1;have k0:=hb1.cell;have k1:=hb1.frozen;obtain ⟨s1,s2,s3⟩:=hS.app (by omega) hown1 hgrow1;have hsz1:(w1.setCell ⟨w.heap.size + 1 + 1,0,none⟩ (.slice (some ⟨g',0,none⟩) 1 cap')).heap.size = w1.heap.size:=by simp
         have hlt2:=s3.size;rw [hsz1] at hlt2;have hcn2:∀ y i u,[Value.int .i64 y][i]? = some u -> ((w1.setCell ⟨w.heap.size + 1 + 1,0,none⟩ (.slice (some ⟨g',0,none⟩) 1 cap')).alloc (.cells #[.int .i64 y] 3)).cell? ((⟨w1.heap.size,0,none⟩:Addr).add i) = some u:=fun y => by
           have h9:=cell_one_new (w1.setCell ⟨w.heap.size + 1 + 1,0,none⟩ (.slice (some ⟨g',0,none⟩) 1 cap')) (.int .i64 y) 3;rw [hsz1] at h9;exact h9
         have HS1:=lH s1;have HS2:=lH s2;have HS3:=lH s3;have Hcn2:=lH hcn2;clear s1 s2 s3 hcn2 hown1 hgrow1 hb1 hsz1
         gi_wp2_with (gi_at_builtin; refine wpListIn_append_own _ rfl _ _ 44 rfl w.heap.size 3 i0 (.int .i64 0) 1 8 Tryz.underlying44 hi hz0 hz1 hz2 rfl (by decide) _ _ _ rfl (HS1.out.row.alloc _) ⟨w1.heap.size,0,none⟩ 1 1 [.int .i64 (x - 40 * f)] rfl rfl (Hcn2.out _) (by simp [Value.oneCell']) (by unfold maxLen; simp) (by simp) (by simp; omega) ?_)
         intro v2 w2 hown2 hgrow2 _;obtain ⟨g2,cap2,rfl⟩:=ownsRow_succ hown2;have hb2:=Boxed_past HS1.out.bx (by decide) HS1.out.row hgrow2;have j0:=hb2.cell;have j1:=hb2.frozen;obtain ⟨q1,q2,q3⟩:=HS1.out.app (by simp; omega) hown2 hgrow2;have HB2:=lH hB;have HQ1:=lH q1;have HQ2:=lH q2;have HQ3:=lH q3;have hcx:(w2.setCell ⟨w.heap.size + 1 + 1,0,none⟩ (.slice (some ⟨g2,0,none⟩) 2 cap2)).heap[w.heap.size + 1 + 1 + 1]? = W.heap[w.heap.size + 1 + 1 + 1]? := (show _ = _ from q1.cx).trans (show _ = _ from hS.cx).symm;have HCX:=lH hcx;clear q1 q2 q3 hown2 hgrow2 hb2 hB hcx
         gi_wp2
         exact ⟨(HS2.out.trans HQ2.out).from _,HCX.out,⟨[f,x - 40 * f],_,Hcn.out,HQ1.out⟩,HB2.out.trans (HS3.out.trans HQ3.out)⟩
       · have t3:((L.length:Int) == 0) = false:=by rw [beq_eq_false_iff_ne]; omega
         have hL:L ≠ []:=fun h => h0 (by rw [h]; rfl)
         rw [push_some _ _ hL,show ((x.toNat:Nat):Int) = x from by omega] at hcn;have Hcons:=lH hcons;clear hcons;have Hcn:=lH hcn;clear hcn;clear hneg h20 h0
         gi_wp2_with (gi_at_builtin; refine wpListIn_append_own _ rfl _ _ 44 rfl w.heap.size 3 i0 (.int .i64 0) 1 8 Tryz.underlying44 hi hz0 hz1 hz2 rfl (by decide) _ _ _ rfl (hS.row.alloc _) ⟨W.heap.size,0,none⟩ 1 1 [.int .i64 x] rfl rfl (cell_one_new _ _ _) (by simp [Value.oneCell']) (by unfold maxLen; omega) (by omega) (by simp; omega) ?_)
         intro v1 w1 hown1 hgrow1 _;obtain ⟨g',cap',rfl⟩:=ownsRow_succ hown1;have hb1:=Boxed_past hS.bx (by decide) hS.row hgrow1;have k0:=hb1.cell;have k1:=hb1.frozen;obtain ⟨s1,s2,s3⟩:=hS.app (by omega) hown1 hgrow1;have hcx:(w1.setCell ⟨w.heap.size + 1 + 1,0,none⟩ (.slice (some ⟨g',0,none⟩) (L.length + 1) cap')).heap[w.heap.size + 1 + 1 + 1]? = W.heap[w.heap.size + 1 + 1 + 1]? := (show _ = _ from s1.cx).trans (show _ = _ from hS.cx).symm;have HB2:=lH hB;have HS1:=lH s1;have HS2:=lH s2;have HS3:=lH s3;have HCX:=lH hcx;clear s1 s2 s3 hown1 hgrow1 hb1 hcx hB
         gi_wp2
         exact ⟨HS2.out.from _,HCX.out,⟨_,_,Hcn.out,HS1.out⟩,HB2.out.trans HS3.out⟩
 case done =>
   rintro D ys W hD rfl ⟨⟨L,v,hcons,hS⟩,hB⟩ hK;rw [cons_ns] at hcons;obtain ⟨A,cap,rfl⟩:∃ A c,v = .slice A L.length c:=by
     rcases hS.row.2 with ⟨rfl,h0⟩ | ⟨g,cap,cur,rfl,_⟩
     · exact ⟨_,_,by rw [h0]⟩
     · exact ⟨_,_,rfl⟩
   have hR:=hS.read;have g0:=hS.r0.cell;have g1:=hS.r0.frozen;have g2:=hS.r1.cell;have g3:=hS.r1.frozen;have g4:=hS.bx.cell;have hz2:=hB.size
   by_cases hok:Ok L
   · obtain ⟨z1,z2⟩:=dec_some _ L hcons hok;have c1:=right_any W _ L hR true (decide_eq_true hok).symm;obtain rfl:xs = L:=by rw [HXS.out,z1]
     obtain rfl:q = true:=by rw [HQ.out,z2]
     have Hc1:=lH c1;have HS:=lH hS;have HB:=lH hB;have HK:=lH hK;have HK2:=lH (((KeepsOthers.setCell W ⟨w.heap.size,0,none⟩ (.slice A xs.length cap)).trans (KeepsOthers.setCell _ ⟨w.heap.size + 1,0,none⟩ (.bool true))).same D _ hK rfl);clear z1 z2 hcons hok c1 hR hS hB hK
     gi_wp2_with (refine ⟨trivial, ?_⟩; gi_at_call 94; refine (callsIn_wide.2 Hc1.out).mono ?_; rintro e w' ⟨rfl,rfl⟩)
     refine ⟨by simp,.inl ⟨_,_,rfl,run_takeDeferred HK2.out, ?_⟩⟩;have m0:=(Boxed_turn ((HS.out.r0.set (.slice A xs.length cap)).other (show w.heap.size ≠ w.heap.size + 1 by omega) (.bool true)) (grownBy_putObj' _ D (.deferred none)) (fun r e => by cases e; exact ⟨_,HK2.out,rfl⟩)).cell;have m1:=(Boxed_turn ((HS.out.r1.other (show w.heap.size + 1 ≠ w.heap.size by omega) (.slice A xs.length cap)).set (.bool true)) (grownBy_putObj' _ D (.deferred none)) (fun r e => by cases e; exact ⟨_,HK2.out,rfl⟩)).cell;have hBB:=((HB.out.setCell (p:=⟨w.heap.size,0,none⟩) (Nat.le_refl _) (.slice A xs.length cap)).setCell (p:=⟨w.heap.size + 1,0,none⟩) (by simp) (.bool true)).trans (belowK_b (w:=w) (Nat.le_refl _) _ D _ (.deferred none) (by omega) HK2.out rfl rfl);obtain ⟨G,hG⟩:∃ G,G = (((W.setCell ⟨w.heap.size,0,none⟩ (.slice A xs.length cap)).setCell ⟨w.heap.size + 1,0,none⟩ (.bool true)).putObj D (.deferred none)):=⟨_,rfl⟩
     rw [<- hG] at m0 m1 hBB ⊢;refine ⟨.tuple #[.slice A xs.length cap,.bool true], ?_,_,rfl, ?_,hBB⟩
     · simp [results,Tryz.results61,go_sem,m0,m1]
     · rw [hG]; exact SlR.own (Row_turn (Boxed_row2 HS.out.row HS.out.r0 HS.out.r1 (by decide) (by decide) _ _ (show w.heap.size + 1 ≠ w.heap.size by omega)) (grownBy_putObj' _ D (.deferred none)) (fun r e => by cases e; exact ⟨_,HK2.out,rfl⟩))
   · obtain ⟨z1,z2⟩:=dec_bad _ L hcons hok;have c1:=right_any W _ L hR false (decide_eq_false hok).symm;obtain rfl:xs = []:=by rw [HXS.out,z1]
     obtain rfl:q = false:=by rw [HQ.out,z2]
     have Hc1:=lH c1;have HS:=lH hS;have HB:=lH hB;have HK:=lH hK;have HK2:=lH (((KeepsOthers.setCell W ⟨w.heap.size,0,none⟩ (.slice none 0 0)).trans (KeepsOthers.setCell _ ⟨w.heap.size + 1,0,none⟩ (.bool false))).same D _ hK rfl);clear z1 z2 hcons hok c1 hR hS hB hK
     gi_wp2_with (refine ⟨trivial, ?_⟩; gi_at_call 94; refine (callsIn_wide.2 Hc1.out).mono ?_; rintro e w' ⟨rfl,rfl⟩)
     refine ⟨by simp,.inl ⟨_,_,rfl,run_takeDeferred HK2.out, ?_⟩⟩;have m0:=(Boxed_turn ((HS.out.r0.set (.slice none 0 0)).other (show w.heap.size ≠ w.heap.size + 1 by omega) (.bool false)) (grownBy_putObj' _ D (.deferred none)) (fun r e => by cases e; exact ⟨_,HK2.out,rfl⟩)).cell;have m1:=(Boxed_turn ((HS.out.r1.other (show w.heap.size + 1 ≠ w.heap.size by omega) (.slice none 0 0)).set (.bool false)) (grownBy_putObj' _ D (.deferred none)) (fun r e => by cases e; exact ⟨_,HK2.out,rfl⟩)).cell;have hBB:=((HB.out.setCell (p:=⟨w.heap.size,0,none⟩) (Nat.le_refl _) (.slice none 0 0)).setCell (p:=⟨w.heap.size + 1,0,none⟩) (by simp) (.bool false)).trans (belowK_b (w:=w) (Nat.le_refl _) _ D _ (.deferred none) (by omega) HK2.out rfl rfl);obtain ⟨G,hG⟩:∃ G,G = (((W.setCell ⟨w.heap.size,0,none⟩ (.slice none 0 0)).setCell ⟨w.heap.size + 1,0,none⟩ (.bool false)).putObj D (.deferred none)):=⟨_,rfl⟩
     rw [<- hG] at m0 m1 hBB ⊢;refine ⟨.tuple #[.slice none 0 0,.bool false], ?_,_,rfl, ?_,hBB⟩
     · simp [results,Tryz.results61,go_sem,m0,m1]
     · exact IntsS.nil _
 case stop =>
   rintro D cd pre W hD hpre ⟨⟨rfl,hnone,r0,r1⟩,hB⟩ hK;have hno:=cons_pre _ _ _ hpre hnone;rw [cons_ns] at hno;obtain ⟨z1,z2⟩:=dec_none _ hno;obtain rfl:xs = []:=by rw [HXS.out,z1]
   obtain rfl:q = false:=by rw [HQ.out,z2]
   have m0:=(Boxed_turn r0 (grownBy_putObj' _ D (.deferred none)) (fun r e => by cases e; exact ⟨_,hK,rfl⟩)).cell;have m1:=(Boxed_turn r1 (grownBy_putObj' _ D (.deferred none)) (fun r e => by cases e; exact ⟨_,hK,rfl⟩)).cell;have hBB:=hB.trans (belowK_b (w:=w) (Nat.le_refl _) _ D _ (.deferred none) (by omega) hK rfl rfl);clear hno z1 z2 hpre hnone
   gi_wp2
   refine ⟨by simp,.inl ⟨_,_,rfl,run_takeDeferred hK, ?_⟩⟩;obtain ⟨G,hG⟩:∃ G,G = W.putObj D (.deferred none):=⟨_,rfl⟩
   rw [<- hG] at m0 m1 hBB ⊢;refine ⟨.tuple #[.slice none 0 0,.bool false], ?_,_,rfl,IntsS.nil _,hBB⟩;simp [results,Tryz.results61,go_sem,m0,m1]
end Oid
end Go.Proofs.YtpanhhjkecebkaaGreat
namespace Go.Proofs.YtpanhhjkecebkaaGreat
open Go.RowKit Go.Shelf
attribute [local go_sem] Oper.semAt_some
namespace Oid
abbrev AP:={ s:ByteArray // s.size <= 1000000 }
end Oid
end Go.Proofs.YtpanhhjkecebkaaGreat
namespace Go.Proofs.YtpanhhjkecebkaaGreat
open Go.RowKit Go.Shelf
attribute [local go_sem] Oper.semAt_some
namespace Oid
def pc (pre:List AP):Option (List Int):=pp (pre.map fun x => x.1.data.toList) []
theorem decode_mk (c:ByteArray) (hm:c.size <= 1000000) (xs:List Int) (q:Bool) (hx:xs = decL c.data.toList) (hq:q = decB c.data.toList):MkI 61 #[.string c] xs q:=fun w => callsIn_wide.1 (decode_in c hm xs q hx hq w)
end Oid
end Go.Proofs.YtpanhhjkecebkaaGreat
namespace Go.Proofs.YtpanhhjkecebkaaGreat
open Go.RowKit
namespace Oid
def RdII (f:Nat) (a b:List Int) (v:Value):Prop:=∀ w x y,IntsS w x a -> IntsS w y b -> Calls Tryz.prog f #[x,y] w fun e w' => e = .returned v /\ Below w.heap.size w w'
def aw2:List Int:=[2,999]
end Oid
set_option maxHeartbeats 2000000 in
theorem pints_rd (a b:List Int) (q:Bool) (hq:q = decide (a = b)):Oid.RdII 72 a b (.bool q):=by
 intro w x y hx hy;have hle1:=hx.le;have hle2:=hy.le;obtain ⟨A1,d1,rfl,h1,h2⟩:=hx.slice;obtain ⟨A2,d2,rfl,h3,h4⟩:=hy.slice;have HS0:=lH (Since.refl w)
 by_cases hl:a.length = b.length
 · have t1:((a.length:Int) != (b.length:Int)) = false:=by rw [bne_eq_false_iff_eq]; omega
   by_cases h0:a.length = 0
   · have e1:a = b:=by rw [List.eq_nil_of_length_eq_zero h0,List.eq_nil_of_length_eq_zero (hl.symm.trans h0)]
     have hq2:q = true:=by rw [hq]; exact decide_eq_true e1
     subst hq2;rw [h0] at h1 ⊢;rw [hl.symm.trans h0] at h3 ⊢;clear hx hy h1 h2 h3 h4 hl e1 hq hle1 hle2 t1 h0
     go_enter Tryz.func72,Tryz.ntmps72
     go_wp2_with fail
     go_loop [5] (fun i => i = .int .i64 0) (fun _ => 0)
     case atStart => rfl
     case round =>
       obtain rfl:=hrel;go_wp2_with fail;go_ret;exact ⟨rfl,HS0.out⟩
   · obtain ⟨b1,o1,_,hv1,_,_,hlt1,e1⟩:=hx.form (by omega);obtain ⟨rfl,-,-⟩:=Value.slice.inj hv1;obtain ⟨b2,o2,_,hv2,_,_,hlt2,e2⟩:=hy.form (by omega);obtain ⟨rfl,-,-⟩:=Value.slice.inj hv2;obtain ⟨n,hn⟩:∃ n,a.length = n:=⟨_,rfl⟩
     have hm:b.length = n:=hl.symm.trans hn;have HN:=lH hn;have HM:=lH hm;have HQ:=lH hq;have H_e1:=lH e1;have H_e2:=lH e2;rw [hn,hm] at t1;rw [hn] at hle1;rw [hn,hm];clear hx hy h1 h2 h3 h4 hl hq hle2 hn hm h0 hv1 hv2 e1 e2
     go_enter Tryz.func72,Tryz.ntmps72
     go_wp2_with fail;go_loopw [5] (fun i wr => ∃ k:Nat,k <= n /\ i = .int .i64 (k:Int) /\ Hid (a.take k = b.take k) /\ Hid (Since w wr)) (fun i _ => n - (intOf i).toNat)
     case atStart => exact ⟨0,by omega,rfl,lH rfl,HS0⟩
     case round =>
       obtain ⟨k,hk,rfl,HT,HS⟩:=hrel
       by_cases hlt:k < n
       · have hc1:=(Below.cell HS.out (p:=⟨b1,o1 + k,none⟩) hlt1).trans (H_e1.out k (by have:=HN.out; omega));have hc2:=(Below.cell HS.out (p:=⟨b2,o2 + k,none⟩) hlt2).trans (H_e2.out k (by have:=HM.out; omega));obtain ⟨p,hp⟩:∃ p,p = a.getD k 0:=⟨_,rfl⟩
         obtain ⟨r,hr⟩:∃ r,r = b.getD k 0:=⟨_,rfl⟩
         rw [<- hp] at hc1;rw [<- hr] at hc2;have hsn:=take_eq_snoci a b k (by have:=HN.out; omega) (by have:=HM.out; omega) HT.out;rw [<- hp,<- hr] at hsn;have hne:p ≠ r -> a ≠ b:=fun h h3 => h (by rw [hp,hr,h3])
         have Hp:=lH hp;clear hp;have Hr:=lH hr;clear hr;have Hsn:=lH hsn;clear hsn;have Hne:=lH hne;clear hne
         by_cases hpq:p = r
         · subst hpq;go_wp2_with fail
           go_quiet (fail)
           go_wp2_with fail;go_roundw
           case rel => exact ⟨k + 1,by omega,by go_num,lH (Hsn.out trivial),lH (since_drewNi HS.out _)⟩
           case measure => simp [intOf]; omega
         · have hb0:q = false:=by rw [HQ.out]; exact decide_eq_false (Hne.out hpq)
           subst hb0;have hst:=(bne_iff_ne.2 hpq:(p != r) = true)
           go_wp2_with fail
           go_quiet (fail)
           go_wp2_with fail;go_ret;exact ⟨rfl,since_drewNi HS.out _⟩
       · obtain rfl:k = n:=by omega
         have hb0:q = true:=by
           have h8:=HT.out;rw [List.take_of_length_le (by have:=HN.out; omega),List.take_of_length_le (by have:=HM.out; omega)] at h8;rw [HQ.out]; exact decide_eq_true h8
         subst hb0;go_wp2_with fail;go_ret;exact ⟨rfl,HS.out⟩
 · have t1:((a.length:Int) != (b.length:Int)) = true:=by rw [bne_iff_ne]; omega
   have hq2:q = false:=by rw [hq]; exact decide_eq_false (fun h => hl (by rw [h]))
   subst hq2;obtain ⟨n,hn⟩:∃ n,a.length = n:=⟨_,rfl⟩
   obtain ⟨m,hm⟩:∃ m,b.length = m:=⟨_,rfl⟩
   rw [hn,hm] at t1;rw [hn,hm];clear hx hy h1 h2 h3 h4 hl hq hle1 hle2 hn hm
   go_enter Tryz.func72,Tryz.ntmps72
   go_wp2_with fail;go_ret;exact ⟨rfl,HS0.out⟩
end Go.Proofs.YtpanhhjkecebkaaGreat
