import Derived.Test.YtcdjfmlanicjlaaGreatDoorSl4
import Derived.BigQuiet
set_option maxRecDepth 100000
namespace Go.Proofs.YtcdjfmlanicjlaaGreatDoor
open Go.RowKit
namespace Trim
theorem retStill {f:Nat} {args:Array Value} {v:Value} (h:Ret f args v) (w:World):Calls Tryz.prog f args w fun e w' => e = .returned v /\ w' = w:=(h w).mono fun _ _ ⟨he,hw⟩ => ⟨he,hw.symm⟩
def strN:Value -> Nat
 | .string s => s.size
 | _ => 0
def left (c:UInt8) (l:List UInt8):List UInt8:=l.dropWhile (· == c)
def right (c:UInt8) (l:List UInt8):List UInt8:=(left c l.reverse).reverse
theorem left_all (c:UInt8) (l:List UInt8):left c l = [] ↔ ∀ x ∈ l,x = c:=by
 induction l with
 | nil => simp [left]
 | cons a l ih =>
   unfold left at ih ⊢
   rw [List.dropWhile_cons]
   by_cases h:a = c
   · rw [if_pos (by simpa using h)]
     rw [ih]
     simp [h]
   · rw [if_neg (by simpa using h)]
     simp [h]
theorem trim_all (c:UInt8) (l:List UInt8):left c (right c l) = [] ↔ ∀ x ∈ l,x = c:=by
 rw [left_all]
 unfold right
 constructor
 · intro h
   by_cases hn:left c l.reverse = []
   · intro x hx
     exact (left_all c l.reverse).1 hn x (by simpa using hx)
   · exfalso
     have hq:∀ m:List UInt8,m.dropWhile (· == c) ≠ [] -> ∃ a t,m.dropWhile (· == c) = a :: t /\ a ≠ c:=by
       intro m
       induction m with
       | nil => intro h; exact absurd rfl h
       | cons b m ih =>
         rw [List.dropWhile_cons]
         by_cases hb:b = c
         · rw [if_pos (by simpa using hb)]; exact ih
         · rw [if_neg (by simpa using hb)]; intro _; exact ⟨b,m,rfl,hb⟩
     obtain ⟨a,t,h1,h2⟩:=hq l.reverse hn
     exact h2 (h a (by rw [List.mem_reverse]; unfold left; rw [h1]; simp))
 · intro h x hx
   rw [List.mem_reverse] at hx
   have hs:∀ m:List UInt8,∀ x ∈ m.dropWhile (· == c),x ∈ m:=by
     intro m
     induction m with
     | nil => intro x h; exact h
     | cons b m ih =>
       intro x
       rw [List.dropWhile_cons]
       split
       · intro h2; exact List.mem_cons_of_mem _ (ih x h2)
       · exact id
   have h3:=hs _ x hx
   exact h x (List.mem_reverse.1 h3)
theorem right_snoc (c a:UInt8) (l:List UInt8):right c (l ++ [a]) = if a = c then right c l else l ++ [a]:=by
 unfold right left
 rw [List.reverse_append,List.reverse_singleton,List.singleton_append,List.dropWhile_cons]
 by_cases h:a = c
 · rw [if_pos (by simpa using h),if_pos h]
 · rw [if_neg (by simpa using h),if_neg h]; simp
set_option maxHeartbeats 1000000 in
theorem tleft_ret (c:UInt8) (s:ByteArray) (hm:s.size <= 140737488355328) (R:ByteArray) (hR:left c s.data.toList = R.data.toList) (d:Int) (hd:d = (c.toNat:Int)):Ret 101 #[.string s,.int .u8 d] (.string R):=by
 intro w
 have HR:=lH hR
 clear hR
 go_enter Tryz.func101,Tryz.ntmps101
 go_wp2_with fail
 go_loop [0] (fun v => ∃ t:ByteArray,v = .string t /\ t.size <= 140737488355328 /\ Hid (left c t.data.toList = R.data.toList)) (fun v => strN v)
 case atStart => exact ⟨s,rfl,hm,HR⟩
 case round =>
   clear HR hm
   obtain ⟨t,rfl,hm,HR⟩:=hrel
   have hl:t.data.toList.length = t.size:=rfl
   by_cases h0:0 < t.size
   · obtain ⟨q,hq⟩:∃ q,((t[0].toNat:Int) == d) = q:=⟨_,rfl⟩
     have h3:t.data.toList = t[0] :: t.data.toList.drop 1:=by
       have h9:=List.drop_eq_getElem_cons (show 0 < t.data.toList.length from h0)
       rw [List.drop_zero] at h9
       exact h9
     have hr:=HR.out
     rw [h3] at hr
     unfold left at hr
     rw [List.dropWhile_cons] at hr
     cases q
     · have hne:t[0] ≠ c:=fun h => by
         rw [beq_eq_false_iff_ne,hd,h] at hq; exact hq rfl
       rw [if_neg (by simpa using hne)] at hr
       have e:t = R:=ba_ext (h3.trans hr)
       subst e
       clear hr h3 hl HR hd hne
       go_wp2
       go_ret
       exact ⟨rfl,rfl⟩
     · have he:t[0] = c:=UInt8.toNat_inj.1 (by rw [beq_iff_eq,hd] at hq; omega)
       rw [if_pos (by simpa using he)] at hr
       obtain ⟨B,hB⟩:∃ B,t.extract 1 t.size = B:=⟨_,rfl⟩
       have hBl:B.data.toList = t.data.toList.drop 1:=by
         rw [<- hB,ext_list,List.take_of_length_le (by rw [List.length_drop]; omega)]
       have hBs:B.size + 1 = t.size:=by
         have h8:B.data.toList.length = B.size:=rfl
         rw [hBl,List.length_drop] at h8; omega
       have HR2:=lH (show left c B.data.toList = R.data.toList by rw [hBl]; exact hr)
       have i3:(1:Int) <= (t.size:Int):=by omega
       clear hr h3 hl HR hd he hBl
       go_wp2
       go_round
       case rel => exact ⟨B,rfl,by omega,HR2⟩
       case measure => show B.size < t.size; omega
   · have hz:t.size = 0:=by omega
     have e:t = R:=by
       have h9:t.data.toList = []:=List.eq_nil_of_length_eq_zero (by omega)
       refine ba_ext ?_
       rw [<- HR.out,h9]; rfl
     subst e
     clear hl HR hd
     go_wp2
     go_ret
     exact ⟨rfl,rfl⟩
set_option maxHeartbeats 1000000 in
theorem tright_ret (c:UInt8) (s:ByteArray) (hm:s.size <= 140737488355328) (R:ByteArray) (hR:right c s.data.toList = R.data.toList) (d:Int) (hd:d = (c.toNat:Int)):Ret 102 #[.string s,.int .u8 d] (.string R):=by
 intro w
 have HR:=lH hR
 clear hR
 go_enter Tryz.func102,Tryz.ntmps102
 go_wp2_with fail
 go_loop [0] (fun v => ∃ t:ByteArray,v = .string t /\ t.size <= 140737488355328 /\ Hid (right c t.data.toList = R.data.toList)) (fun v => strN v)
 case atStart => exact ⟨s,rfl,hm,HR⟩
 case round =>
   clear HR hm
   obtain ⟨t,rfl,hm,HR⟩:=hrel
   have hl:t.data.toList.length = t.size:=rfl
   by_cases h0:0 < t.size
   · obtain ⟨m,hm1⟩:∃ m,t.size = m + 1:=⟨t.size - 1,by omega⟩
     have hlt:m < t.size:=by omega
     obtain ⟨q,hq⟩:∃ q,((t[m].toNat:Int) == d) = q:=⟨_,rfl⟩
     have e1:IntKind.i64.wrap ((t.size:Int) - 1) = (m:Int):=by rw [IntWalk.i64_in _ (by omega)]; omega
     have h3:t.data.toList = t.data.toList.take m ++ [t[m]]:=by
       have h9:=List.take_succ_eq_append_getElem (show m < t.data.toList.length from hlt)
       rw [List.take_of_length_le (by omega)] at h9
       exact h9
     have hr:=HR.out
     rw [h3,right_snoc] at hr
     cases q
     · have hne:t[m] ≠ c:=fun h => by
         rw [beq_eq_false_iff_ne,hd,h] at hq; exact hq rfl
       rw [if_neg hne,<- h3] at hr
       have e:t = R:=ba_ext hr
       subst e
       clear hr h3 hl HR hd hne hm1
       go_wp2
       go_ret
       exact ⟨rfl,rfl⟩
     · have he:t[m] = c:=UInt8.toNat_inj.1 (by rw [beq_iff_eq,hd] at hq; omega)
       rw [if_pos he] at hr
       obtain ⟨B,hB⟩:∃ B,t.extract 0 m = B:=⟨_,rfl⟩
       have hBl:B.data.toList = t.data.toList.take m:=by
         rw [<- hB,ext_list,List.drop_zero,Nat.sub_zero]
       have hBs:B.size = m:=by
         have h8:B.data.toList.length = B.size:=rfl
         rw [hBl,List.length_take] at h8; omega
       have HR2:=lH (show right c B.data.toList = R.data.toList by rw [hBl]; exact hr)
       have i2:(m:Int) <= (t.size:Int):=by omega
       have i1:(0:Int) <= (m:Int):=by omega
       have hms:B.size < t.size /\ B.size <= 140737488355328:=by omega
       clear hr h3 hl HR hd he hBl hm1 hBs
       go_wp2
       go_round
       case rel => exact ⟨B,rfl,hms.2,HR2⟩
       case measure => exact hms.1
   · have hz:t.size = 0:=by omega
     have e:t = R:=by
       have h9:t.data.toList = []:=List.eq_nil_of_length_eq_zero (by omega)
       refine ba_ext ?_
       rw [<- HR.out,h9]; rfl
     subst e
     clear hl HR hd
     go_wp2
     go_ret
     exact ⟨rfl,rfl⟩
theorem trim_empty (c:UInt8):Ret 98 #[.string ⟨#[]⟩,.string ⟨#[c]⟩] (.string ⟨#[]⟩):=by
 intro w
 go_enter Tryz.func98,Tryz.ntmps98
 go_wp2_with fail
 go_ret
 exact ⟨rfl,rfl⟩
set_option maxHeartbeats 2000000 in
theorem trim_core (s A B:ByteArray) (hs:0 < s.size) (c:UInt8) (hc:c.toNat < 128) (c1:Ret 102 #[.string s,.int .u8 (c.toNat:Int)] (.string A)) (c2:Ret 101 #[.string A,.int .u8 (c.toNat:Int)] (.string B)):Mak 98 #[.string s,.string ⟨#[c]⟩] (.string B):=by
 intro w
 have b1:=some_bytes s hs
 have b2:=some_bytes_f s hs
 have h0:0 < (⟨#[c]⟩:ByteArray).size:=Nat.one_pos
 have t1:decide ((((⟨#[c]⟩:ByteArray)[0]'h0).toNat:Int) < 128) = true:=decide_eq_true (show (c.toNat:Int) < 128 by omega)
 replace c1:Ret 102 #[.string s,.int .u8 (((⟨#[c]⟩:ByteArray)[0]'h0).toNat:Int)] (.string A):=c1
 replace c2:Ret 101 #[.string A,.int .u8 (((⟨#[c]⟩:ByteArray)[0]'h0).toNat:Int)] (.string B):=c2
 clear hc
 go_enter Tryz.func98,Tryz.ntmps98
 go_wp2_with fail
 go_quiet (first | (go_at_call 102; with_reducible exact Calls.quiet_of_same (retStill c1 _)) | (go_at_call 101; with_reducible exact Calls.quiet_of_same (retStill c2 _)))
 go_wp2_with fail
 go_ret
 exact ⟨rfl,⟨rfl,rfl,rfl,Nat.le_refl _,fun _ _ => rfl⟩⟩
theorem trim_mak (s:ByteArray) (hm:s.size <= 140737488355328) (c:UInt8) (hc:c.toNat < 128) (Y:ByteArray) (hY:Y = bs (left c (right c s.data.toList))):Mak 98 #[.string s,.string ⟨#[c]⟩] (.string Y):=by
 subst hY
 by_cases hs:0 < s.size
 · have hr:(bs (right c s.data.toList)).size <= 140737488355328:=by
     show (bs (right c s.data.toList)).data.toList.length <= _
     rw [list_bs]
     unfold right left
     rw [List.length_reverse]
     have h1:=(List.dropWhile_sublist (l:=s.data.toList.reverse) (· == c)).length_le
     rw [List.length_reverse] at h1
     have h2:s.data.toList.length = s.size:=rfl
     omega
   exact trim_core s (bs (right c s.data.toList)) _ hs c hc (tright_ret c s hm _ (by rw [list_bs]) _ rfl) (tleft_ret c _ hr _ (by rw [list_bs,list_bs]) _ rfl)
 · obtain rfl:s = ⟨#[]⟩:=ba_ext (List.eq_nil_of_length_eq_zero (by have h8:s.size = s.data.toList.length:=rfl; omega))
   exact (trim_empty c).mak
end Trim
namespace RefDig
set_option maxHeartbeats 400000 in
theorem value_any (c:Nat) (w:World) (hc:c < 256) (V:Int) (hV:V = Dig.val c) :
   Calls Tryz.prog 38 #[.int .u8 (c:Int)] w fun e w' => e = .returned (.int .i64 V) /\ w = w':=by
 have HV:=lH hV
 clear hV
 go_enter Tryz.func38,Tryz.ntmps38
 go_wp2
 go_loop [3] (fun i => ∃ k:Nat,k <= 16 /\ i = .int .i64 (k:Int) /\ Hid (∀ j,j < k -> (Dig.sign j).toNat ≠ c)) (fun i => 16 - (intOf i).toNat)
 case atStart => exact ⟨0,by omega,rfl,lH (fun j hj => by omega)⟩
 case round =>
   obtain ⟨k,hk,rfl,HN⟩:=hrel
   by_cases hlt:k < 16
   · have hsg:=Dig.sign_at k hlt
     have HSG:=lH hsg
     obtain ⟨d,hd⟩:∃ d,d = (Dig.sign k).toNat:=⟨_,rfl⟩
     have hdd:=congrArg UInt8.toNat hsg
     rw [<- hd] at hdd
     have HD:=lH hd
     have hd256:d < 256:=by rw [hd]; exact (Dig.sign k).toNat_lt
     clear hsg hd
     by_cases heq:d = c
     · have hval:=Dig.val_sign c k hlt (by rw [<- HD.out]; exact heq)
       have hV0:V = (k:Int):=by rw [HV.out,hval]
       subst heq
       have HV0:=lH hV0
       clear hV0 hval
       go_wp2_with fail
       go_ret
       rw [HV0.out]
       exact ⟨rfl,rfl⟩
     · have hb:((d:Int) == (c:Int)) = false:=by rw [beq_eq_false_iff_ne]; omega
       have HE:=lH heq
       clear heq
       go_wp2_with fail
       go_round
       case rel =>
         refine ⟨k + 1,by omega,by go_num,lH (fun j hj => ?_)⟩
         by_cases hjk:j < k
         · exact HN.out j hjk
         · obtain rfl:j = k:=by omega
           rw [<- HD.out]; exact HE.out
       case measure => simp [intOf]; omega
   · obtain rfl:k = 16:=by omega
     have hV0:V = -1:=by rw [HV.out,Dig.val_none c hc HN.out]
     subst hV0
     go_wp2_with fail
     go_ret
     exact ⟨rfl,rfl⟩
theorem qval (c:Nat) (hc:c < 256) (h:Int) (hh:Dig.val c = h) (W:World):Calls Tryz.prog 38 #[.int .u8 (c:Int)] W fun e w' => e = .returned (.int .i64 h) /\ w' = W :=
 (value_any c W hc h hh.symm).mono fun _ _ ⟨he,hw⟩ => ⟨he,hw.symm⟩
set_option maxHeartbeats 400000 in
theorem unhex_odd (s:ByteArray) (w:World) (hm:s.size <= 140737488355328) (h:s.size % 2 = 1) :
   Calls Tryz.prog 23 #[.string s] w fun e w' => e = .returned (.tuple #[.string ⟨#[]⟩,.bool false]) /\ Since w w':=by
 have hb:((s.size:Int) % 2 != 0) = true:=by rw [bne_iff_ne]; omega
 clear h
 go_enter Tryz.func23,Tryz.ntmps23
 go_wp2
 go_ret2
 exact ⟨rfl,Since.refl w⟩
set_option maxHeartbeats 1000000 in
theorem unhex_even (s:ByteArray) (m:Nat) (w:World) (hm:s.size <= 140737488355328) (h:s.size = 2 * m) (X:ByteArray) (B:Bool) (hB:B = Dig.okN s.data.toList m) (hX:X = if Dig.okN s.data.toList m = true then strOfNums ((List.range m).map (Dig.pairV s.data.toList)) else ⟨#[]⟩) :
   Calls Tryz.prog 23 #[.string s] w fun e w' => e = .returned (.tuple #[.string X,.bool B]) /\ Since w w':=by
 have HBB:=lH hB
 have HXX:=lH hX
 clear hB hX
 have hb:((s.size:Int) % 2 != 0) = false:=by rw [bne_eq_false_iff_eq]; omega
 have hle:2 * m <= s.size:=by omega
 have hge:s.size <= 2 * m:=by omega
 have HH:=lH h
 clear h
 go_enter Tryz.func23,Tryz.ntmps23
 go_wp2
 clear hb
 go_loopw [4,5] (fun o i wr => ∃ k:Nat,k <= m /\ i = .int .i64 (2 * (k:Int)) /\ Hid (Dig.okN s.data.toList k = true) /\ (∃ S:ByteArray,o = .string S /\ S.size <= k /\ Hid (S = strOfNums ((List.range k).map (Dig.pairV s.data.toList)))) /\ Hid (Since w wr)) (fun _ i _ => 2 * m - (intOf i).toNat)
 case atStart => exact ⟨0,by omega,rfl,lH rfl,⟨⟨#[]⟩,rfl,Nat.le_refl _,lH rfl⟩,lH (Since.refl w)⟩
 case round =>
   obtain ⟨k,hk,rfl,HO,⟨S,rfl,hS,HSS0⟩,HS⟩:=hrel
   by_cases hlt:k < m
   · have k1:2 * k < s.size:=by omega
     have k2:2 * k + 1 < s.size:=by omega
     have hs:=Dig.okN_succ s.data.toList k
     have hp:Dig.pairV s.data.toList k = 16 * Dig.hi s.data.toList k + Dig.lo s.data.toList k:=rfl
     obtain ⟨a,ha⟩:∃ a,s[2 * k].toNat = a:=⟨_,rfl⟩
     obtain ⟨b,hb⟩:∃ b,s[2 * k + 1].toNat = b:=⟨_,rfl⟩
     have ha2:a < 256:=by rw [<- ha]; exact s[2 * k].toNat_lt
     have hb2:b < 256:=by rw [<- hb]; exact s[2 * k + 1].toNat_lt
     have hva:Dig.val a = Dig.hi s.data.toList k:=by unfold Dig.hi; rw [Dig.getD_at s _ k1,ha]
     have hvb:Dig.val b = Dig.lo s.data.toList k:=by unfold Dig.lo; rw [Dig.getD_at s _ k2,hb]
     have va:=Dig.val_lt a
     have vb:=Dig.val_lt b
     rw [hva] at va
     rw [hvb] at vb
     have C1:=lH (fun W => qval a ha2 _ hva W)
     have C2:=lH (fun W => qval b hb2 _ hvb W)
     clear hva hvb
     generalize Dig.hi s.data.toList k = x at *
     generalize Dig.lo s.data.toList k = y at *
     have HSS:=lH hs
     have HPP:=lH hp
     clear hs hp
     have e2:IntKind.i64.wrap (2 * (k:Int) + 1) = 2 * (k:Int) + 1:=IntWalk.i64_in _ (by omega)
     have n1:(2 * (k:Int)).toNat = 2 * k:=by omega
     have n2:(2 * (k:Int) + 1).toNat = 2 * k + 1:=by omega
     have q1:(0:Int) <= 2 * (k:Int):=by omega
     have q2:(0:Int) <= 2 * (k:Int) + 1:=by omega
     have l1:2 * (k:Int) < (s.size:Int):=by omega
     have l2:2 * (k:Int) + 1 < (s.size:Int):=by omega
     go_wp2_with fail
     go_quiet (first | (go_at_call 38; with_reducible exact Calls.quiet_of_same (C1.out _)) | (go_at_call 38; with_reducible exact Calls.quiet_of_same (C2.out _)))
     clear e2 n1 n2 q1 q2 l1 l2
     have hno:Dig.okN s.data.toList (k + 1) = false -> Dig.okN s.data.toList m = false:=fun h => by
       cases hc:Dig.okN s.data.toList m with
       | false => rfl
       | true => rw [Dig.okN_le _ _ _ hc (by omega)] at h; cases h
     have HNO:=lH hno
     clear hno
     by_cases hx:0 <= x
     · by_cases hy:0 <= y
       · have r0:=fun q:Nat => World.rowIs_alloc (wr.drewN q) #[.int .u8 (16 * x + y)] 5 (fun _ => .int .u8 (16 * x + y)) (fun j hj => by
           obtain rfl:j = 0:=by simp at hj; omega
           rfl)
         have g:=fun q:Nat => run_convert_bytes_arg (P:=Tryz.prog) ((wr.drewN q).alloc (.cells #[.int .u8 (16 * x + y)] 5)) 69 5 Tryz.underlying69 Tryz.underlying5 wr.heap.size 0 1 1 [16 * x + y] rfl (fun i hi => by
           obtain rfl:i = 0:=by omega
           have r1:((wr.drewN q).alloc (.cells #[.int .u8 (16 * x + y)] 5)).rowIs wr.heap.size 5 1 (fun _ => .int .u8 (16 * x + y)):=r0 q
           rw [Nat.zero_add,r1.cell (Nat.lt_succ_self 0)]; rfl) 9 Tryz.underlying9
         clear r0
         have hsz:¬ 9223372036854775807 < S.size + (strOfNums [16 * x + y]).size:=by rw [strOfNums_size]; simp; omega
         go_wp2_with fail
         go_roundw
         case rel =>
           refine ⟨k + 1,by omega,by go_num,lH (by rw [HSS.out,HO.out]; simp [hx,hy]),⟨_,rfl, ?_,lH ?_⟩,lH (Since.alloc (w:=wr.drewN _) (HS.out.step ⟨rfl,rfl,rfl,Nat.le_refl _,fun _ _ => rfl⟩) _)⟩
           · show (S ++ strOfNums [16 * x + y]).size <= k + 1
             have h9:(S ++ strOfNums [16 * x + y]).size = S.size + 1:=by
               have h8:=congrArg List.length (app_list S (strOfNums [16 * x + y]))
               rw [List.length_append,nums_list] at h8
               exact h8
             omega
           · apply ba_ext
             rw [app_list,nums_list,nums_list,List.range_succ,List.map_append,List.map_append,HSS0.out,nums_list]
             simp only [List.map_cons,List.map_nil]
             rw [HPP.out]
         case measure => simp [intOf]; omega
       · have hf9:=HNO.out (by rw [HSS.out]; simp [hy])
         have hX0:X = ⟨#[]⟩:=by rw [HXX.out,hf9]; rfl
         have hB0:B = false:=by rw [HBB.out,hf9]
         subst hX0 hB0
         clear hf9
         go_wp2_with fail
         go_ret2
         exact ⟨rfl,Since.step (w':=wr.drewN _) HS.out ⟨rfl,rfl,rfl,Nat.le_refl _,fun _ _ => rfl⟩⟩
     · have hf9:=HNO.out (by rw [HSS.out]; simp [hx])
       have hX0:X = ⟨#[]⟩:=by rw [HXX.out,hf9]; rfl
       have hB0:B = false:=by rw [HBB.out,hf9]
       subst hX0 hB0
       clear hf9
       go_wp2_with fail
       go_ret2
       exact ⟨rfl,Since.step (w':=wr.drewN _) HS.out ⟨rfl,rfl,rfl,Nat.le_refl _,fun _ _ => rfl⟩⟩
   · obtain rfl:k = m:=by omega
     have hB0:B = true:=by rw [HBB.out,HO.out]
     have hX0:X = S:=by rw [HXX.out,HO.out,HSS0.out]; rfl
     subst hB0 hX0
     go_wp2_with fail
     go_ret2
     exact ⟨rfl,HS.out⟩
theorem sign_cut (d:Nat) (h:d < 16):(⟨#[48,49,50,51,52,53,54,55,56,57,65,66,67,68,69,70]⟩:ByteArray).extract d (d + 1) = bs [Dig.sign d]:=by
 rcases (show d = 0 ∨ d = 1 ∨ d = 2 ∨ d = 3 ∨ d = 4 ∨ d = 5 ∨ d = 6 ∨ d = 7 ∨ d = 8 ∨ d = 9 ∨ d = 10 ∨ d = 11 ∨ d = 12 ∨ d = 13 ∨ d = 14 ∨ d = 15 by omega) with rfl | rfl | rfl | rfl | rfl | rfl | rfl | rfl | rfl | rfl | rfl | rfl | rfl | rfl | rfl | rfl <;> rfl
theorem hex_snoc (l:List UInt8) (c:UInt8):Dig.hexL (l ++ [c]) = Dig.hexL l ++ [Dig.sign (c.toNat / 16),Dig.sign (c.toNat % 16)]:=by
 unfold Dig.hexL; rw [List.flatMap_append]; rfl
set_option maxHeartbeats 1000000 in
theorem hex_any (s:ByteArray) (w:World) (hm:s.size <= 70368744177664) (X:ByteArray) (hX:X = bs (Dig.hexL s.data.toList)) :
   Calls Tryz.prog 48 #[.string s] w fun e w' => e = .returned (.string X) /\ Since w w':=by
 have HX:=lH hX
 clear hX
 go_enter Tryz.func48,Tryz.ntmps48
 go_wp2
 go_loopw [3,4] (fun o i wr => ∃ k:Nat,k <= s.size /\ i = .int .i64 (k:Int) /\ (∃ S:ByteArray,o = .string S /\ S.size <= 2 * k /\ Hid (S = bs (Dig.hexL (s.data.toList.take k)))) /\ Hid (Since w wr)) (fun _ i _ => s.size - (intOf i).toNat)
 case atStart => exact ⟨0,by omega,rfl,⟨⟨#[]⟩,rfl,Nat.le_refl _,lH rfl⟩,lH (Since.refl w)⟩
 case round =>
   obtain ⟨k,hk,rfl,⟨S,rfl,hS,HSS⟩,HS⟩:=hrel
   by_cases hlt:k < s.size
   · have hst:Dig.hexL (s.data.toList.take (k + 1)) = Dig.hexL (s.data.toList.take k) ++ [Dig.sign (s[k].toNat / 16),Dig.sign (s[k].toNat % 16)]:=by
       rw [List.take_succ_eq_append_getElem (by simpa using hlt),hex_snoc]; rfl
     obtain ⟨c,hc⟩:∃ c,s[k].toNat = c:=⟨_,rfl⟩
     have hc2:c < 256:=by rw [<- hc]; exact s[k].toNat_lt
     rw [hc] at hst
     obtain ⟨A,hA⟩:∃ A,c / 16 = A:=⟨_,rfl⟩
     obtain ⟨B,hB⟩:∃ B,c % 16 = B:=⟨_,rfl⟩
     rw [hA,hB] at hst
     have hA2:A < 16:=by omega
     have hB2:B < 16:=by omega
     have qA:(c:Int) / 16 = (A:Int):=by omega
     have qB:(c:Int) % 16 = (B:Int):=by omega
     have x1:=sign_cut A hA2
     have x2:=sign_cut B hB2
     have z1:¬ 9223372036854775807 < S.size + (bs [Dig.sign A]).size:=by rw [size_bs]; simp; omega
     have z2:¬ 9223372036854775807 < (S ++ bs [Dig.sign A]).size + (bs [Dig.sign B]).size:=by
       have h9:(S ++ bs [Dig.sign A]).size = S.size + 1:=by
         have h8:=congrArg List.length (app_list S (bs [Dig.sign A]))
         rw [List.length_append,list_bs] at h8
         exact h8
       rw [size_bs,h9]; simp; omega
     have e1:IntKind.i64.wrap ((A:Int) + 1) = (A:Int) + 1:=IntWalk.i64_in _ (by omega)
     have e2:IntKind.i64.wrap ((B:Int) + 1) = (B:Int) + 1:=IntWalk.i64_in _ (by omega)
     have n1:((A:Int) + 1).toNat = A + 1:=by omega
     have n2:((B:Int) + 1).toNat = B + 1:=by omega
     have HST:=lH hst
     clear hst hA hB
     go_wp2_with fail
     go_quiet (fail)
     clear e1 e2 n1 n2
     go_wp2_with fail
     go_roundw
     case rel =>
       refine ⟨k + 1,by omega,by go_num,⟨_,rfl, ?_,lH ?_⟩,lH (Since.step (w':=wr.drewN _) HS.out ⟨rfl,rfl,rfl,Nat.le_refl _,fun _ _ => rfl⟩)⟩
       · have h8:=congrArg List.length (app_list (S ++ bs [Dig.sign A]) (bs [Dig.sign B]))
         have h7:=congrArg List.length (app_list S (bs [Dig.sign A]))
         rw [List.length_append,list_bs] at h8 h7
         have h9:(S ++ bs [Dig.sign A] ++ bs [Dig.sign B]).size = (S ++ bs [Dig.sign A]).size + 1:=h8
         have h6:(S ++ bs [Dig.sign A]).size = S.size + 1:=h7
         rw [h9,h6]; omega
       · apply ba_ext
         rw [app_list,app_list,list_bs,list_bs,list_bs,HSS.out,list_bs,HST.out]
         simp
     case measure => simp [intOf]; omega
   · obtain rfl:k = s.size:=by omega
     have hX0:X = S:=by rw [HX.out,HSS.out,List.take_of_length_le (by simp)]
     subst hX0
     go_wp2_with fail
     go_ret
     exact ⟨rfl,HS.out⟩
end RefDig
namespace Prn
def allB:List UInt8:=[65,66,67,68,69,70,71,72,73,74,75,76,77,78,79,80,81,82,83,84,85,86,87,88,89,90,97,98,99,100,101,102,103,104,105,106,107,108,109,110,111,112,113,114,115,116,117,118,119,120,121,122,48,49,50,51,52,53,54,55,56,57,32,39,40,41,43,44,45,46,47,58,61,63]
def okc (c:UInt8):Bool:=allB.any (· == c)
def prnB (l:List UInt8):Bool:=l.all okc
end Prn
end Go.Proofs.YtcdjfmlanicjlaaGreatDoor
