import Derived.Test.YtddlaafpianjbaaGreatDoorBo16
import Derived.Test.YtddlaafpianjbaaGreatDoorBo7
set_option maxRecDepth 100000
namespace Go.Proofs.YtddlaafpianjbaaGreatDoor
open Go.RowKit
namespace Dig
set_option maxHeartbeats 400000 in
theorem value_any (c:Nat) (w:World) (hc:c < 256) :
   Calls Tryz.prog 200 #[.int .u8 (c:Int)] w fun e w' => e = .returned (.int .i64 (val c)) /\ w = w':=by
 by_cases h1:48 <= c
 · by_cases h2:c <= 57
   · have hv:val c = (c:Int) - 48:=by unfold val; rw [if_pos ⟨h1,h2⟩]
     go_enter Tryz.func200,Tryz.ntmps200
     go_wp2
     go_ret
     exact ⟨by rw [hv]; simp,rfl⟩
   · by_cases h3:65 <= c
     · by_cases h4:c <= 70
       · have hv:val c = (c:Int) - 55:=by unfold val; rw [if_neg (by omega),if_pos ⟨h3,h4⟩]
         have HV:=lH hv
         clear hv
         go_enter Tryz.func200,Tryz.ntmps200
         go_wp2
         go_ret
         refine ⟨?_,rfl⟩
         rw [HV.out]; simp; omega
       · have hv:val c = -1:=by unfold val; rw [if_neg (by omega),if_neg (by omega)]
         rw [hv]
         clear hv
         go_enter Tryz.func200,Tryz.ntmps200
         go_wp2
         go_ret
         exact ⟨by first | rfl | rw [hv],rfl⟩
     · have hv:val c = -1:=by unfold val; rw [if_neg (by omega),if_neg (by omega)]
       go_enter Tryz.func200,Tryz.ntmps200
       go_wp2
       go_ret
       exact ⟨by first | rfl | rw [hv],rfl⟩
 · have hv:val c = -1:=by unfold val; rw [if_neg (by omega),if_neg (by omega)]
   go_enter Tryz.func200,Tryz.ntmps200
   go_wp2
   go_ret
   exact ⟨by first | rfl | rw [hv],rfl⟩
set_option maxHeartbeats 1000000 in
theorem hex_any (s:ByteArray) (w:World) (hm:s.size <= 70368744177664) :
   Calls Tryz.prog 61 #[.string s] w fun e w' => e = .returned (.string (bs (hexL s.data.toList))) /\ Below w.heap.size w w':=by
 have hmk:∀ w:World,(Instr.makeSlice 114 (.int .i64 (2 * (s.size:Int))) (.int .i64 (2 * (s.size:Int)))).run Tryz.prog w = .ok (.slice (some ⟨w.heap.size,0,none⟩) (2 * s.size) (2 * s.size)) (w.alloc (.cells (madeCells #[.int .u8 0] (2 * s.size)) 5)):=fun w => by
   have h:=run_make_row' (P:=Tryz.prog) 114 5 (.int .u8 0) 1 Tryz.underlying114 info5 rfl .i64 .i64 (2 * s.size) (by omega) (by omega) w
   rwa [show ((2 * s.size:Nat):Int) = 2 * (s.size:Int) by omega] at h
 go_enter Tryz.func61,Tryz.ntmps61
 go_wp2
 go_loopw [11] (fun i wr => ∃ k:Nat,k <= s.size /\ i = .int .i64 (k:Int) /\ Hid (wr.rowIs w.heap.size 5 (2 * s.size) (fun j => if j < 2 * k then hexC s.data.toList j else .int .u8 0)) /\ Hid (Below w.heap.size w wr)) (fun i _ => s.size - (intOf i).toNat)
 case atStart =>
   exact ⟨0,by omega,rfl,lH ((World.rowIs_made w (.int .u8 0) (2 * s.size) 5).congr fun j _ => by simp),lH ((Below.refl _ _).alloc (Nat.le_refl _) _)⟩
 case round =>
   obtain ⟨k,hk,rfl,HR,HB⟩:=hrel
   by_cases hlt:k < s.size
   · have hc1:=HR.out.cell (i:=2 * k) (by omega)
     have hf1:=HR.out.frozen (2 * k)
     have hc2:∀ v,(wr.setCell ⟨w.heap.size,2 * k,none⟩ v).cell? ⟨w.heap.size,2 * k + 1,none⟩ = some (.int .u8 0):=fun v => by
       have h:=(HR.out.set (2 * k) v).cell (i:=2 * k + 1) (by omega)
       rw [if_neg (by omega),if_neg (by omega)] at h
       exact h
     have hf2:∀ v,(wr.setCell ⟨w.heap.size,2 * k,none⟩ v).frozen? ⟨w.heap.size,2 * k + 1,none⟩ = false:=fun v => (HR.out.set _ v).frozen _
     have hb:=s[k].toNat_lt
     go_wp2_with fail
     go_roundw
     case rel =>
       have hw1:=(HR.out.set (2 * k) (.int .u8 ((sign (s[k].toNat / 16)).toNat:Int))).set (2 * k + 1) (.int .u8 ((sign (s[k].toNat % 16)).toNat:Int))
       refine ⟨k + 1,by omega,by go_num,lH ?_,lH ((HB.out.setCell (p:=⟨w.heap.size,2 * k,none⟩) (Nat.le_refl _) _).setCell (p:=⟨w.heap.size,2 * k + 1,none⟩) (Nat.le_refl _) _)⟩
       rw [sign_at,sign_at]
       refine hw1.congr fun j hj => ?_
       by_cases h1:j = 2 * k + 1
       · subst h1
         rw [if_pos rfl,if_pos (by omega)]
         unfold hexC
         rw [if_neg (by omega),show (2 * k + 1) / 2 = k from by omega,getD_at s k hlt]
       · by_cases h2:j = 2 * k
         · subst h2
           rw [if_neg h1,if_pos rfl,if_pos (by omega)]
           unfold hexC
           rw [if_pos (by omega),show 2 * k / 2 = k from by omega,getD_at s k hlt]
         · rw [if_neg h1,if_neg h2]
           by_cases h3:j < 2 * k
           · rw [if_pos h3,if_pos (by omega)]
           · rw [if_neg h3,if_neg (by omega)]
     case measure => simp [intOf]; omega
   · obtain rfl:k = s.size:=by omega
     have hlen:=hexL_len s.data.toList
     have g:=run_convert_bytes_arg (P:=Tryz.prog) wr 114 5 Tryz.underlying114 Tryz.underlying5 w.heap.size 0 (2 * s.size) (2 * s.size) ((hexL s.data.toList).map fun c => (c.toNat:Int)) (by rw [List.length_map,hlen]; rfl) (fun i hi => by
       rw [Nat.zero_add,HR.out.cell hi,if_pos hi,hexL_at s.data.toList i hi]) 9 Tryz.underlying9
     rw [nums_bytes] at g
     generalize hxx:bs (hexL s.data.toList) = x at *
     have HX:=lH hxx
     clear hxx
     go_wp2_with fail
     go_ret
     rw [HX.out]
     exact ⟨rfl,HB.out⟩
theorem qval (c:Nat) (hc:c < 256) (h:Int) (hh:val c = h) (W:World):Calls Tryz.prog 200 #[.int .u8 (c:Int)] W fun e w' => e = .returned (.int .i64 h) /\ w' = W:=by
 subst hh; exact (value_any c W hc).mono fun _ _ ⟨he,hw⟩ => ⟨he,hw.symm⟩
set_option maxHeartbeats 400000 in
theorem unhex_odd (s:ByteArray) (w:World) (hm:s.size <= 140737488355328) (h:s.size % 2 = 1) :
   Calls Tryz.prog 166 #[.string s] w fun e w' => e = .returned (.tuple #[.string ⟨#[]⟩,.bool false]) /\ Since w w':=by
 have hb:((s.size:Int) % 2 != 0) = true:=by rw [bne_iff_ne]; omega
 clear h
 go_enter Tryz.func166,Tryz.ntmps166
 go_wp2
 go_ret2
 exact ⟨rfl,Since.refl w⟩
set_option maxHeartbeats 1000000 in
theorem unhex_even (s:ByteArray) (m:Nat) (w:World) (hm:s.size <= 140737488355328) (h:s.size = 2 * m) (X:ByteArray) (B:Bool) (hB:B = okN s.data.toList m) (hX:X = if okN s.data.toList m = true then strOfNums ((List.range m).map (pairV s.data.toList)) else ⟨#[]⟩) :
   Calls Tryz.prog 166 #[.string s] w fun e w' => e = .returned (.tuple #[.string X,.bool B]) /\ Since w w':=by
 have HBB:=lH hB
 have HXX:=lH hX
 clear hB hX
 have hmk:∀ w:World,(Instr.makeSlice 114 (.int .i64 (m:Int)) (.int .i64 (m:Int))).run Tryz.prog w = .ok (.slice (some ⟨w.heap.size,0,none⟩) m m) (w.alloc (.cells (madeCells #[.int .u8 0] m) 5)):=fun w =>
   run_make_row' (P:=Tryz.prog) 114 5 (.int .u8 0) 1 Tryz.underlying114 info5 rfl .i64 .i64 m (by omega) (by omega) w
 have hb:((s.size:Int) % 2 != 0) = false:=by rw [bne_eq_false_iff_eq]; omega
 have hd:(s.size:Int) / 2 = (m:Int):=by omega
 have hle:2 * m <= s.size:=by omega
 have HH:=lH h
 clear h
 go_enter Tryz.func166,Tryz.ntmps166
 go_wp2
 clear hmk hb hd
 go_loopw [18] (fun i wr => ∃ k:Nat,k <= m /\ i = .int .i64 (k:Int) /\ Hid (okN s.data.toList k = true) /\ Hid (wr.rowIs w.heap.size 5 m (fun j => if j < k then .int .u8 (pairV s.data.toList j) else .int .u8 0)) /\ Hid (Since w wr)) (fun i _ => m - (intOf i).toNat)
 case atStart =>
   exact ⟨0,by omega,rfl,lH rfl,lH ((World.rowIs_made w (.int .u8 0) m 5).congr fun j _ => by simp),lH ((Since.refl w).alloc _)⟩
 case round =>
   obtain ⟨k,hk,rfl,HO,HR,HS⟩:=hrel
   by_cases hlt:k < m
   · have k1:2 * k < s.size:=by omega
     have k2:2 * k + 1 < s.size:=by omega
     have hs:=okN_succ s.data.toList k
     have hp:pairV s.data.toList k = 16 * hi s.data.toList k + lo s.data.toList k:=rfl
     obtain ⟨a,ha⟩:∃ a,s[2 * k].toNat = a:=⟨_,rfl⟩
     obtain ⟨b,hb⟩:∃ b,s[2 * k + 1].toNat = b:=⟨_,rfl⟩
     have ha2:a < 256:=by rw [<- ha]; exact s[2 * k].toNat_lt
     have hb2:b < 256:=by rw [<- hb]; exact s[2 * k + 1].toNat_lt
     have hva:val a = hi s.data.toList k:=by unfold hi; rw [getD_at s _ k1,ha]
     have hvb:val b = lo s.data.toList k:=by unfold lo; rw [getD_at s _ k2,hb]
     have va:=val_lt a
     have vb:=val_lt b
     rw [hva] at va
     rw [hvb] at vb
     have C1:=lH (fun W => qval a ha2 _ hva W)
     have C2:=lH (fun W => qval b hb2 _ hvb W)
     clear hva hvb
     generalize hi s.data.toList k = x at *
     generalize lo s.data.toList k = y at *
     have HSS:=lH hs
     have HPP:=lH hp
     clear hs hp
     have hc:=HR.out.cell (i:=k) hlt
     have hf:=HR.out.frozen k
     have e1:IntKind.i64.wrap (2 * (k:Int)) = 2 * (k:Int):=IntWalk.i64_in _ (by omega)
     have e2:IntKind.i64.wrap (2 * (k:Int) + 1) = 2 * (k:Int) + 1:=IntWalk.i64_in _ (by omega)
     have n1:(2 * (k:Int)).toNat = 2 * k:=by omega
     have n2:(2 * (k:Int) + 1).toNat = 2 * k + 1:=by omega
     have q1:(0:Int) <= 2 * (k:Int):=by omega
     have q2:(0:Int) <= 2 * (k:Int) + 1:=by omega
     have l1:2 * (k:Int) < (s.size:Int):=by omega
     have l2:2 * (k:Int) + 1 < (s.size:Int):=by omega
     go_wp2_with fail
     go_quiet (first | (go_at_call 200; with_reducible exact Calls.quiet_of_same (C1.out _)) | (go_at_call 200; with_reducible exact Calls.quiet_of_same (C2.out _)))
     clear e1 e2 n1 n2 q1 q2 l1 l2
     have hno:okN s.data.toList (k + 1) = false -> okN s.data.toList m = false:=fun h => by
       cases hc:okN s.data.toList m with
       | false => rfl
       | true => rw [okN_le _ _ _ hc (by omega)] at h; cases h
     have HNO:=lH hno
     clear hno
     by_cases hx:0 <= x
     · by_cases hy:0 <= y
       · go_wp2_with fail
         go_roundw
         case rel =>
           refine ⟨k + 1,by omega,by go_num,lH (by rw [HSS.out,HO.out]; simp [hx,hy]),lH ((HR.out.set k _).drew.congr fun j hj => ?_),lH (Below.setCell (w:=wr.drewN _) (HS.out.step ⟨rfl,rfl,rfl,Nat.le_refl _,fun _ _ => rfl⟩) (p:=⟨w.heap.size,k,none⟩) (Nat.le_refl _) _)⟩
           by_cases h1:j = k
           · subst h1; rw [if_pos rfl,if_pos (by omega),HPP.out]
           · by_cases h2:j < k
             · simp [h1,h2,show j < k + 1 from by omega]
             · simp [h1,h2,show ¬ j < k + 1 from by omega]
         case measure => simp [intOf]; omega
       · have hf9:=HNO.out (by rw [HSS.out]; simp [hy])
         have HF:=lH hf9
         clear hf9
         have hX0:X = ⟨#[]⟩:=by rw [HXX.out,HF.out]; rfl
         have hB0:B = false:=by rw [HBB.out,HF.out]
         subst hX0 hB0
         go_wp2_with fail
         go_ret2
         exact ⟨rfl,Since.step (w':=wr.drewN _) HS.out ⟨rfl,rfl,rfl,Nat.le_refl _,fun _ _ => rfl⟩⟩
     · have hf9:=HNO.out (by rw [HSS.out]; simp [hx])
       have HF:=lH hf9
       clear hf9
       have hX0:X = ⟨#[]⟩:=by rw [HXX.out,HF.out]; rfl
       have hB0:B = false:=by rw [HBB.out,HF.out]
       subst hX0 hB0
       go_wp2_with fail
       go_ret2
       exact ⟨rfl,Since.step (w':=wr.drewN _) HS.out ⟨rfl,rfl,rfl,Nat.le_refl _,fun _ _ => rfl⟩⟩
   · obtain rfl:k = m:=by omega
     have hB0:B = true:=by rw [HBB.out,HO.out]
     have hX0:X = strOfNums ((List.range k).map (pairV s.data.toList)):=by rw [HXX.out,HO.out]; rfl
     subst hB0
     have g:=run_convert_bytes_arg (P:=Tryz.prog) wr 114 5 Tryz.underlying114 Tryz.underlying5 w.heap.size 0 k k ((List.range k).map (pairV s.data.toList)) (by simp) (fun i hi => by
       rw [Nat.zero_add,HR.out.cell hi,if_pos hi]; simp [List.getD,hi]) 9 Tryz.underlying9
     rw [<- hX0] at g
     clear hX0
     go_wp2_with fail
     go_ret2
     exact ⟨rfl,HS.out⟩
end Dig
namespace Dig
def numD (l:List UInt8):Nat:=l.foldl (fun n c => 10 * n + (c.toNat - 48)) 0
def isD (c:UInt8):Bool:=decide (48 <= c.toNat) && decide (c.toNat <= 57)
theorem numD_snoc (l:List UInt8) (c:UInt8):numD (l ++ [c]) = 10 * numD l + (c.toNat - 48):=by unfold numD; rw [List.foldl_append]; rfl
theorem numD_aux (l:List UInt8) (h:l.all isD = true):∀ n:Nat,l.foldl (fun n c => 10 * n + (c.toNat - 48)) n < (n + 1) * 10 ^ l.length:=by
 induction l with
 | nil => intro n; simp
 | cons c l ih =>
   intro n
   rw [List.all_cons,Bool.and_eq_true] at h
   have h1:=ih h.2 (10 * n + (c.toNat - 48))
   have hc:c.toNat <= 57:=by have:=h.1; unfold isD at this; simp at this; exact this.2
   simp only [List.foldl_cons,List.length_cons]
   refine Nat.lt_of_lt_of_le h1 ?_
   rw [Nat.pow_succ,Nat.mul_comm (10 ^ l.length) 10,<- Nat.mul_assoc]
   exact Nat.mul_le_mul_right _ (by omega)
theorem numD_lt (l:List UInt8) (k:Nat) (h:l.all isD = true) (hk:l.length <= k):numD l < 10 ^ k:=by
 have h1:=numD_aux l h 0
 rw [Nat.zero_add,Nat.one_mul] at h1
 exact Nat.lt_of_lt_of_le h1 (Nat.pow_le_pow_right (by decide) hk)
theorem take_snoc (s:ByteArray) (k:Nat) (h:k < s.size):s.data.toList.take (k + 1) = s.data.toList.take k ++ [s[k]]:=by
 rw [List.take_succ_eq_append_getElem (by simpa using h)]; rfl
theorem all_take (l:List UInt8) (k:Nat) (h:l.all isD = true):(l.take k).all isD = true:=by
 rw [List.all_eq_true] at *
 exact fun x hx => h x (List.mem_of_mem_take hx)
set_option maxHeartbeats 1000000 in
theorem undec_in (s:ByteArray) (w:World) (h1:1 <= s.size) (hs:s.size <= 18) (N:Int) (B:Bool) (hB:B = s.data.toList.all isD) (hN:N = if s.data.toList.all isD = true then (numD s.data.toList:Int) else 0) :
   Calls Tryz.prog 198 #[.string s] w fun e w' => e = .returned (.tuple #[.int .i64 N,.bool B]) /\ w = w':=by
 have HB:=lH hB
 have HN:=lH hN
 clear hB hN
 go_enter Tryz.func198,Tryz.ntmps198
 go_wp2
 go_loop [4,16] (fun n i => ∃ k:Nat,k <= s.size /\ i = .int .i64 k /\ Hid ((s.data.toList.take k).all isD = true) /\ n = .int .i64 ((numD (s.data.toList.take k):Nat):Int)) (fun _ i => s.size - (intOf i).toNat)
 case atStart => exact ⟨0,Nat.zero_le _,rfl,lH rfl,rfl⟩
 case round =>
   obtain ⟨k,hk,rfl,HA,rfl⟩:=hrel
   by_cases hlt:k < s.size
   · have hts:numD (s.data.toList.take (k + 1)) = 10 * numD (s.data.toList.take k) + (s[k].toNat - 48):=by
       rw [take_snoc s k hlt,numD_snoc]
     have has:(s.data.toList.take (k + 1)).all isD = isD s[k]:=by
       rw [take_snoc s k hlt,List.all_append,HA.out]; simp
     have hb:numD (s.data.toList.take k) < 10 ^ 17:=numD_lt _ 17 HA.out (by simp; omega)
     have hb2:numD (s.data.toList.take k) < 100000000000000000:=hb
     clear hb
     have hc:=s[k].toNat_lt
     have HS:=lH hts
     have HSA:=lH has
     clear hts has
     generalize numD (s.data.toList.take k) = q at *
     by_cases c1:48 <= s[k].toNat
     · by_cases c2:s[k].toNat <= 57
       · have hd:isD s[k] = true:=by unfold isD; simp [c1,c2]
         have HD:=lH hd
         clear hd
         go_wp2_with fail
         go_round
         case rel => exact ⟨k + 1,by omega,by go_num,lH (by rw [HSA.out,HD.out]),by rw [HS.out]; congr 1; omega⟩
         case measure => simp [intOf]; omega
       · have hd:isD s[k] = false:=by unfold isD; simp; omega
         have hno:s.data.toList.all isD = false:=by
           cases hc:s.data.toList.all isD with
           | false => rfl
           | true => have:=all_take _ (k + 1) hc; rw [HSA.out,hd] at this; cases this
         have hN0:N = 0:=by rw [HN.out,hno]; rfl
         have hB0:B = false:=by rw [HB.out,hno]
         subst hN0 hB0
         clear hd hno
         go_wp2_with fail
         go_ret2
         exact ⟨rfl,rfl⟩
     · have hd:isD s[k] = false:=by unfold isD; simp; omega
       have hno:s.data.toList.all isD = false:=by
         cases hc:s.data.toList.all isD with
         | false => rfl
         | true => have:=all_take _ (k + 1) hc; rw [HSA.out,hd] at this; cases this
       have hN0:N = 0:=by rw [HN.out,hno]; rfl
       have hB0:B = false:=by rw [HB.out,hno]
       subst hN0 hB0
       clear hd hno
       go_wp2_with fail
       go_ret2
       exact ⟨rfl,rfl⟩
   · have hall:s.data.toList.take k = s.data.toList:=List.take_of_length_le (by simp; omega)
     have hAA:=HA.out
     rw [hall] at hAA
     have hB0:B = true:=by rw [HB.out,hAA]
     have hN0:N = (numD s.data.toList:Int):=by rw [HN.out,hAA]; rfl
     rw [hall]
     subst hB0
     have HN0:=lH hN0
     clear hall hAA hN0
     go_wp2_with fail
     go_ret2
     rw [HN0.out]
     exact ⟨rfl,rfl⟩
def dg (n j:Nat):Int:=48 + ((n / 10 ^ j % 10:Nat):Int)
theorem slice18 (width b:Nat) (h0:1 <= width) (h1:width <= 18):∀ w:World,
   (Instr.sliceAt 183 (.pointer (some ⟨b,0,none⟩)) none (some (.int .i64 (width:Int))) none).run Tryz.prog w = .ok (.slice (some ⟨b,0,none⟩) width 18) w:=by
 intro w
 rcases (show width = 1 ∨ width = 2 ∨ width = 3 ∨ width = 4 ∨ width = 5 ∨ width = 6 ∨ width = 7 ∨ width = 8 ∨ width = 9 ∨ width = 10 ∨ width = 11 ∨ width = 12 ∨ width = 13 ∨ width = 14 ∨ width = 15 ∨ width = 16 ∨ width = 17 ∨ width = 18 by omega) with rfl | rfl | rfl | rfl | rfl | rfl | rfl | rfl | rfl | rfl | rfl | rfl | rfl | rfl | rfl | rfl | rfl | rfl <;> kernel_rfl
set_option maxHeartbeats 1000000 in
theorem dec_mid (n width:Nat) (w:World) (hn:n <= 9223372036854775807) (h0:1 <= width) (h1:width <= 18) (X:ByteArray) (hX:X = if n < 10 ^ width then strOfNums ((List.range width).map fun i => dg n (width - 1 - i)) else ⟨#[]⟩) :
   Calls Tryz.prog 142 #[.int .i64 (n:Int),.int .i64 (width:Int)] w fun e w' => e = .returned (.string X) /\ Since w w':=by
 have HX:=lH hX
 clear hX
 go_enter Tryz.func142,Tryz.ntmps142
 go_wp2
 go_loopw [0,18] (fun v i wr => ∃ k m:Nat,k <= width /\ i = .int .i64 (k:Int) /\ Hid (m = n / 10 ^ k) /\ m <= 9223372036854775807 /\ v = .int .i64 (m:Int) /\ Hid (wr.rowIs w.heap.size 183 18 (fun j => if width <= j + k /\ j < width then .int .u8 (dg n (width - 1 - j)) else .int .u8 0)) /\ Hid (Since w wr)) (fun _ i _ => width - (intOf i).toNat)
 case atStart =>
   refine ⟨0,n,by omega,rfl,lH (by simp),hn,rfl,lH ?_,lH ((Since.refl w).alloc _)⟩
   refine (World.rowIs_alloc w _ _ (fun _ => .int .u8 0) (fun i hi => by
       match i,hi with
       | 0,_ | 1,_ | 2,_ | 3,_ | 4,_ | 5,_ | 6,_ | 7,_ | 8,_ | 9,_ | 10,_ | 11,_ | 12,_ | 13,_ | 14,_ | 15,_ | 16,_ | 17,_ => rfl
       | n + 18,hi => simp at hi; omega)).congr fun j _ => by rw [if_neg (by omega)]
 case round =>
   obtain ⟨k,m,hk,rfl,HM,hm,rfl,HR,HS⟩:=hrel
   by_cases hlt:k < width
   · have hc:=HR.out.cell (i:=width - 1 - k) (by omega)
     have hf:=HR.out.frozen (width - 1 - k)
     have HC:=lH hc
     rw [if_neg (by omega)] at hc
     clear HC
     go_wp2_with fail
     go_roundw
     case rel =>
       refine ⟨k + 1,m / 10,by omega,by go_num,lH (by rw [HM.out,Nat.div_div_eq_div_mul,Nat.pow_succ]),by omega,by go_num,lH ((HR.out.set (width - 1 - k) _).congr fun j hj => ?_),lH (Below.setCell HS.out (p:=⟨w.heap.size,width - 1 - k,none⟩) (Nat.le_refl _) _)⟩
       by_cases h9:j = width - 1 - k
       · rw [if_pos h9,if_pos (by omega)]
         unfold dg
         rw [show width - 1 - j = k from by omega,<- HM.out]
         simp
       · rw [if_neg h9]
         by_cases h8:width <= j + k /\ j < width
         · rw [if_pos h8,if_pos (by omega)]
         · rw [if_neg h8,if_neg (by omega)]
     case measure => simp [intOf]; omega
   · obtain rfl:k = width:=by omega
     by_cases hm0:m = 0
     · have hlt2:n < 10 ^ k:=by
         have h9:=HM.out
         rw [hm0] at h9
         exact (Nat.div_eq_zero_iff.1 h9.symm).resolve_left (Nat.ne_of_gt (Nat.pow_pos (by decide)))
       have hX0:X = strOfNums ((List.range k).map fun i => dg n (k - 1 - i)):=by rw [HX.out,if_pos hlt2]
       subst hm0
       have hsl:=slice18 k w.heap.size h0 h1
       have g:=run_convert_bytes_arg (P:=Tryz.prog) wr 114 5 Tryz.underlying114 Tryz.underlying5 w.heap.size 0 k 18 ((List.range k).map fun i => dg n (k - 1 - i)) (by simp) (fun i hi => by
         rw [Nat.zero_add,HR.out.cell (by omega),if_pos (by omega)]; simp [List.getD,hi]) 9 Tryz.underlying9
       rw [<- hX0] at g
       clear hX0 hlt2
       go_wp2_with fail
       go_ret
       exact ⟨rfl,HS.out⟩
     · have hge:¬ n < 10 ^ k:=fun h => hm0 (by rw [HM.out]; exact Nat.div_eq_of_lt h)
       have hX0:X = ⟨#[]⟩:=by rw [HX.out,if_neg hge]
       have hm1:0 < m:=by omega
       subst hX0
       clear hge hm0
       go_wp2_with fail
       go_ret
       exact ⟨rfl,HS.out⟩
end Dig
namespace Dig
theorem sv_all:(List.range 256).all (fun c => val c == -1 || (sign (val c).toNat).toNat == c && decide (0 <= val c)) = true:=by decide +kernel
theorem sign_val (c:UInt8) (h:0 <= val c.toNat):sign (val c.toNat).toNat = c:=by
 have h1:=List.all_eq_true.1 sv_all c.toNat (List.mem_range.2 c.toNat_lt)
 rw [Bool.or_eq_true,Bool.and_eq_true,beq_iff_eq,beq_iff_eq] at h1
 rcases h1 with h1 | h1
 · omega
 · exact UInt8.toNat_inj.1 h1.1
theorem getD_get (l:List UInt8) (i:Nat) (x:UInt8) (h:l[i]? = some x):l.getD i 0 = x:=by unfold List.getD; rw [h]; rfl
theorem hi_hex (l:List UInt8) (j:Nat) (hj:j < l.length):hi (hexL l) j = (((l.getD j 0).toNat / 16:Nat):Int) /\ lo (hexL l) j = (((l.getD j 0).toNat % 16:Nat):Int):=by
 have hc:=(l.getD j 0).toNat_lt
 have h1:=hexL_get l (2 * j) (by omega)
 have h2:=hexL_get l (2 * j + 1) (by omega)
 rw [if_pos (by omega),show 2 * j / 2 = j from by omega] at h1
 rw [if_neg (by omega),show (2 * j + 1) / 2 = j from by omega] at h2
 unfold hi lo
 rw [getD_get _ _ _ h1,getD_get _ _ _ h2]
 exact ⟨val_sign _ _ (by omega) rfl,val_sign _ _ (by omega) rfl⟩
theorem ok_hex (l:List UInt8):okN (hexL l) l.length = true:=by
 unfold okN
 rw [List.all_eq_true]
 intro j hj
 obtain ⟨h1,h2⟩:=hi_hex l j (List.mem_range.1 hj)
 rw [h1,h2]
 simp
 omega
theorem pair_hex (l:List UInt8):((List.range l.length).map (pairV (hexL l))).map (fun n => UInt8.ofNat n.toNat) = l:=by
 apply List.ext_getElem?
 intro i
 by_cases h:i < l.length
 · obtain ⟨h1,h2⟩:=hi_hex l i h
   have hg:l.getD i 0 = l[i]:=by simp [List.getD,h]
   rw [hg] at h1 h2
   have hp:(pairV (hexL l) i).toNat = l[i].toNat:=by unfold pairV; rw [h1,h2]; omega
   rw [List.map_map,List.getElem?_map,List.getElem?_range h,List.getElem?_eq_getElem h]
   show some (UInt8.ofNat (pairV (hexL l) i).toNat) = _
   rw [hp,UInt8.ofNat_toNat]
 · rw [List.getElem?_eq_none (by simp; omega),List.getElem?_eq_none (by omega)]
theorem hex_pair (t:List UInt8) (m:Nat) (hm:t.length = 2 * m) (h:okN t m = true):hexL (((List.range m).map (pairV t)).map fun n => UInt8.ofNat n.toNat) = t:=by
 have hl:(((List.range m).map (pairV t)).map fun n => UInt8.ofNat n.toNat).length = m:=by simp
 apply List.ext_getElem?
 intro i
 by_cases hi2:i < 2 * m
 · rw [hexL_get _ i (by rw [hl]; exact hi2)]
   have hj:i / 2 < m:=by omega
   have hok:=List.all_eq_true.1 h (i / 2) (List.mem_range.2 hj)
   rw [Bool.and_eq_true,decide_eq_true_eq,decide_eq_true_eq] at hok
   obtain ⟨o1,o2⟩:=hok
   have v1:=val_lt (t.getD (2 * (i / 2)) 0).toNat
   have v2:=val_lt (t.getD (2 * (i / 2) + 1) 0).toNat
   have hg:((((List.range m).map (pairV t)).map fun n => UInt8.ofNat n.toNat).getD (i / 2) 0).toNat = (pairV t (i / 2)).toNat:=by
     have h9:(((List.range m).map (pairV t)).map fun n => UInt8.ofNat n.toNat)[i / 2]? = some (UInt8.ofNat (pairV t (i / 2)).toNat):=by simp [hj]
     rw [getD_get _ _ _ h9,UInt8.toNat_ofNat']
     unfold hi at o1
     unfold lo at o2
     unfold pairV hi lo
     omega
   rw [hg,List.getElem?_eq_getElem (by omega)]
   unfold hi at o1
   unfold lo at o2
   by_cases h0:i % 2 = 0
   · rw [if_pos h0]
     have he:2 * (i / 2) = i:=by omega
     have hd:(pairV t (i / 2)).toNat / 16 = (val (t.getD (2 * (i / 2)) 0).toNat).toNat:=by unfold pairV hi lo; omega
     rw [hd,sign_val _ o1,he]
     simp [List.getD,List.getElem?_eq_getElem (show i < t.length by omega)]
   · rw [if_neg h0]
     have he:2 * (i / 2) + 1 = i:=by omega
     have hd:(pairV t (i / 2)).toNat % 16 = (val (t.getD (2 * (i / 2) + 1) 0).toNat).toNat:=by unfold pairV hi lo; omega
     rw [hd,sign_val _ o2,he]
     simp [List.getD,List.getElem?_eq_getElem (show i < t.length by omega)]
 · rw [List.getElem?_eq_none (by rw [hexL_len,hl]; omega),List.getElem?_eq_none (by omega)]
theorem dg_byte (n j:Nat):(UInt8.ofNat (dg n j).toNat).toNat = 48 + n / 10 ^ j % 10:=by
 unfold dg
 have h:n / 10 ^ j % 10 < 10:=Nat.mod_lt _ (by decide)
 generalize n / 10 ^ j % 10 = q at h
 rw [UInt8.toNat_ofNat']
 omega
theorem numD_dec (W:Nat):∀ n:Nat,numD ((List.range W).map fun i => UInt8.ofNat (dg n (W - 1 - i)).toNat) = n % 10 ^ W:=by
 induction W with
 | zero => intro n; simp [numD,Nat.mod_one]
 | succ W ih =>
   intro n
   rw [List.range_succ,List.map_append,List.map_cons,List.map_nil,numD_snoc,dg_byte]
   have hp:(List.range W).map (fun i => UInt8.ofNat (dg n (W + 1 - 1 - i)).toNat) = (List.range W).map (fun i => UInt8.ofNat (dg (n / 10) (W - 1 - i)).toNat):=by
     apply List.map_congr_left
     intro i hi
     have hi':=List.mem_range.1 hi
     unfold dg
     rw [Nat.div_div_eq_div_mul,Nat.mul_comm 10,<- Nat.pow_succ,show (W - 1 - i).succ = W + 1 - 1 - i from by omega]
   rw [hp,ih (n / 10),show W + 1 - 1 - W = 0 from by omega,Nat.pow_zero,Nat.div_one]
   have h1:n % 10 ^ (W + 1) = 10 * (n / 10 % 10 ^ W) + n % 10:=by
     rw [Nat.pow_succ,Nat.mul_comm (10 ^ W) 10,Nat.mod_mul]
     omega
   rw [h1]
   omega
theorem isD_dec (W n:Nat):((List.range W).map fun i => UInt8.ofNat (dg n (W - 1 - i)).toNat).all isD = true:=by
 rw [List.all_eq_true]
 intro x hx
 obtain ⟨i,_,rfl⟩:=List.mem_map.1 hx
 have h:=dg_byte n (W - 1 - i)
 have h2:n / 10 ^ (W - 1 - i) % 10 < 10:=Nat.mod_lt _ (by decide)
 unfold isD
 rw [h]
 simp
 omega
def digs:Nat -> Nat -> List UInt8
 | 0,_ => []
 | f+1,M => if M < 10 then [UInt8.ofNat (48 + M)] else digs f (M / 10) ++ [UInt8.ofNat (48 + M % 10)]
def step (n:Int) (c:UInt8):Int:=if 48 <= c.toNat /\ c.toNat <= 57 then wrap64 (10 * n - ((c.toNat:Int) - 48)) else n
end Dig
namespace Dig
end Dig
namespace Dig
end Dig
namespace RefDig
open Dig
end RefDig
namespace RefDig
open Dig
theorem val_dig (c:Nat) (h:48 <= c /\ c <= 57):val c = (c:Int) - 48:=by unfold val; rw [if_pos h]
theorem val_not (c:Nat) (h:¬ (48 <= c /\ c <= 57)):val c < 0 ∨ 9 < val c:=by unfold val; rw [if_neg h]; split <;> omega
set_option maxHeartbeats 1000000 in
theorem undec_in (s:ByteArray) (h1:1 <= s.size) (hs:s.size <= 18) (N:Int) (B:Bool) (hB:B = s.data.toList.all isD) (hN:N = if s.data.toList.all isD = true then (numD s.data.toList:Int) else 0) :
   Ret 124 #[.string s] (.tuple #[.int .i64 N,.bool B]):=by
 intro w
 have HB:=lH hB
 clear hB
 have HN:=lH hN
 clear hN
 go_enter Tryz.func124,Tryz.ntmps124
 go_wp2
 go_loop [4,5] (fun n i => ∃ k:Nat,k <= s.size /\ i = .int .i64 k /\ Hid ((s.data.toList.take k).all isD = true) /\ n = .int .i64 ((numD (s.data.toList.take k):Nat):Int)) (fun _ i => s.size - (intOf i).toNat)
 case atStart => exact ⟨0,Nat.zero_le _,rfl,lH rfl,rfl⟩
 case round =>
   obtain ⟨k,hk,rfl,HA,rfl⟩:=hrel
   by_cases hlt:k < s.size
   · have hts:numD (s.data.toList.take (k + 1)) = 10 * numD (s.data.toList.take k) + (s[k].toNat - 48):=by
       rw [take_snoc s k hlt,numD_snoc]
     have has:(s.data.toList.take (k + 1)).all isD = isD s[k]:=by
       rw [take_snoc s k hlt,List.all_append,HA.out]; simp
     have hb:numD (s.data.toList.take k) < 10 ^ 17:=numD_lt _ 17 HA.out (by simp; omega)
     have hb2:numD (s.data.toList.take k) < 100000000000000000:=hb
     clear hb
     have hc:=s[k].toNat_lt
     have HS:=lH hts
     have HSA:=lH has
     clear hts has
     generalize numD (s.data.toList.take k) = q at *
     have hcall:=fun W => qval s[k].toNat hc _ rfl W
     by_cases c1:48 <= s[k].toNat /\ s[k].toNat <= 57
     · have hd:isD s[k] = true:=by unfold isD; simp [c1.1,c1.2]
       have hv:=val_dig s[k].toNat c1
       rw [hv] at hcall
       obtain ⟨c1,c2⟩:=c1
       have Hd:=lH hd
       clear hd
       have Hv:=lH hv
       clear hv
       have Hcall:=lH hcall
       clear hcall
       go_wp2_with fail
       refine (Hcall.out _).mono ?_
       rintro e w1 ⟨rfl,rfl⟩
       go_wp2_with fail
       go_round
       case rel => exact ⟨k + 1,by omega,by go_num,lH (by rw [HSA.out,Hd.out]),by rw [HS.out]; congr 1; omega⟩
       case measure => simp [intOf]; omega
     · have hd:isD s[k] = false:=by unfold isD; simp; omega
       have hv:=val_not s[k].toNat c1
       have hno:s.data.toList.all isD = false:=by
         cases hc:s.data.toList.all isD with
         | false => rfl
         | true => have:=all_take _ (k + 1) hc; rw [HSA.out,hd] at this; cases this
       have hN0:N = 0:=by rw [HN.out,hno]; rfl
       have hB0:B = false:=by rw [HB.out,hno]
       subst hN0 hB0
       clear hd hno
       obtain ⟨v,hvv⟩:∃ v,v = val s[k].toNat:=⟨_,rfl⟩
       rw [<- hvv] at hv hcall
       have Hvv:=lH hvv
       clear hvv
       have Hcall:=lH hcall
       clear hcall
       clear c1
       rcases hv with hv | hv
       · go_wp2_with fail
         refine (Hcall.out _).mono ?_
         rintro e w1 ⟨rfl,rfl⟩
         go_wp2_with fail
         go_ret2
         exact ⟨rfl,rfl⟩
       · have hv0:¬ v < 0:=by omega
         go_wp2_with fail
         refine (Hcall.out _).mono ?_
         rintro e w1 ⟨rfl,rfl⟩
         go_wp2_with fail
         go_ret2
         exact ⟨rfl,rfl⟩
   · have hall:s.data.toList.take k = s.data.toList:=List.take_of_length_le (by simp; omega)
     have hAA:=HA.out
     rw [hall] at hAA
     have hB0:B = true:=by rw [HB.out,hAA]
     have hN0:N = (numD s.data.toList:Int):=by rw [HN.out,hAA]; rfl
     rw [hall]
     subst hB0
     have HN0:=lH hN0
     clear hall hAA hN0
     go_wp2_with fail
     go_ret2
     rw [HN0.out]
     exact ⟨rfl,rfl⟩
end RefDig
namespace RefOct
theorem since_drewN {W0 w:World} (h:Since W0 w) (n:Nat):Since W0 (w.drewN n):=h.step ⟨rfl,rfl,rfl,Nat.le_refl _,fun _ _ => rfl⟩
theorem xor_bit (X Y P j:Nat) (hP:P = 2 ^ j):(X ^^^ Y) % (2 * P) = (X ^^^ Y) % P + if X / P % 2 = Y / P % 2 then 0 else P:=by
 subst hP
 rw [Nat.mul_comm,<- Nat.pow_succ,Nat.mod_pow_succ]
 have h:(X ^^^ Y) / 2 ^ j % 2 = if X / 2 ^ j % 2 = Y / 2 ^ j % 2 then 0 else 1:=by
   have h1:=Nat.testBit_xor X Y j
   rw [Nat.testBit_eq_decide_div_mod_eq,Nat.testBit_eq_decide_div_mod_eq,Nat.testBit_eq_decide_div_mod_eq] at h1
   have a1:X / 2 ^ j % 2 = 0 ∨ X / 2 ^ j % 2 = 1:=by omega
   have a2:Y / 2 ^ j % 2 = 0 ∨ Y / 2 ^ j % 2 = 1:=by omega
   have a3:(X ^^^ Y) / 2 ^ j % 2 = 0 ∨ (X ^^^ Y) / 2 ^ j % 2 = 1:=by omega
   rcases a1 with a1 | a1 <;> rcases a2 with a2 | a2 <;> rcases a3 with a3 | a3 <;> simp [a1,a2,a3] at h1 ⊢
 rw [h]; split <;> simp
set_option maxHeartbeats 1000000 in
theorem xor_any (s t:ByteArray) (n:Nat) (w:World) (hn:n = min s.size t.size) (hm:s.size <= 140737488355328) (_hm2:t.size <= 140737488355328) :
   Calls Tryz.prog 114 #[.string s,.string t] w fun e w' => e = .returned (.string (strOfNums ((List.range n).map (Oct.xorV s.data.toList t.data.toList)))) /\ Below w.heap.size w w':=by
 have hns:n <= s.size:=by omega
 have hnt:n <= t.size:=by omega
 have HN:=lH hn
 clear hn
 go_enter Tryz.func114,Tryz.ntmps114
 go_wp2
 go_loopw [5,6] (fun o i wr => ∃ k:Nat,k <= n /\ i = .int .i64 (k:Int) /\ o = .string (strOfNums ((List.range k).map (Oct.xorV s.data.toList t.data.toList))) /\ Hid (Since w wr)) (fun _ i _ => n - (intOf i).toNat)
 case atStart => exact ⟨0,by omega,rfl,rfl,lH (Since.refl w)⟩
 case round =>
   obtain ⟨k,hk,rfl,rfl,HS⟩:=hrel
   by_cases hks:k < s.size
   · by_cases hkt:k < t.size
     · have hlt:k < n:=by rw [HN.out]; omega
       have hs1:=s[k].toNat_lt
       have ht1:=t[k].toNat_lt
       go_wp2_with fail
       go_quiet (fail)
       go_wp2_with fail
       obtain ⟨X,hX⟩:∃ X:Nat,X = s[k].toNat:=⟨_,rfl⟩
       obtain ⟨Y,hY⟩:∃ Y:Nat,Y = t[k].toNat:=⟨_,rfl⟩
       have hxv:Oct.xorV s.data.toList t.data.toList k = ((X ^^^ Y:Nat):Int):=by
         unfold Oct.xorV; rw [Oct.getD_at s k hks,Oct.getD_at t k hkt,hX,hY]
       rw [<- hX,<- hY]
       rw [<- hX] at hs1
       rw [<- hY] at ht1
       have HXV:=lH hxv
       clear hxv hX hY
       go_loopw [9,10] (fun m p wi => ∃ (j P M:Nat),j <= 8 /\ Hid (P = 2 ^ j) /\ 1 <= P /\ P <= 256 /\ Hid (M = (X ^^^ Y) % P) /\ M <= 255 /\ p = .int .i64 (P:Int) /\ m = .int .i64 (M:Int) /\ Hid (Since w wi)) (fun _ p _ => 256 - (intOf p).toNat)
       case atStart => exact ⟨0,1,0,by omega,lH rfl,by omega,by omega,lH (by rw [Nat.mod_one]),by omega,rfl,rfl,lH (since_drewN HS.out _)⟩
       case round =>
         obtain ⟨j,P,M,hj,HP,hP1,hP2,HM,hM,rfl,rfl,HSI⟩:=hrel
         by_cases hj8:j < 8
         · have hP3:P <= 128:=by rw [HP.out]; exact Nat.le_trans (Nat.pow_le_pow_right (by decide) (show j <= 7 by omega)) (by decide)
           have hM2:M < P:=by rw [HM.out]; exact Nat.mod_lt _ hP1
           have hb:=xor_bit X Y P j HP.out
           obtain ⟨A,hA⟩:∃ A:Nat,A = X / P:=⟨_,rfl⟩
           obtain ⟨B,hB⟩:∃ B:Nat,B = Y / P:=⟨_,rfl⟩
           rw [<- hA,<- hB] at hb
           have hA2:A <= 255:=by rw [hA]; exact Nat.le_trans (Nat.div_le_self _ _) (by omega)
           have hB2:B <= 255:=by rw [hB]; exact Nat.le_trans (Nat.div_le_self _ _) (by omega)
           have qA:(X:Int) / (P:Int) = (A:Int):=by rw [hA]; simp
           have qB:(Y:Int) / (P:Int) = (B:Int):=by rw [hB]; simp
           clear hA hB
           have hj2:2 * P = 2 ^ (j + 1):=by rw [HP.out,Nat.pow_succ]; omega
           have HJ:=lH hj2
           clear hj2
           by_cases hbit:A % 2 = B % 2
           · rw [if_pos hbit] at hb
             have HB:=lH hb
             have hbb:((A:Int) % 2 != (B:Int) % 2) = false:=by simp; omega
             have HBIT:=lH hbit
             clear hb hbit
             go_wp2_with fail
             go_quiet (fail)
             go_wp2_with fail
             go_roundw
             case rel => exact ⟨j + 1,2 * P,M,by omega,HJ,by omega,by omega,lH (by rw [HB.out,Nat.add_zero]; exact HM.out),by omega,by go_num,rfl,lH (since_drewN HSI.out _)⟩
             case measure => simp [intOf]; omega
           · rw [if_neg hbit] at hb
             have HB:=lH hb
             have hbb:((A:Int) % 2 != (B:Int) % 2) = true:=by simp; omega
             have HBIT:=lH hbit
             clear hb hbit
             go_wp2_with fail
             go_quiet (fail)
             go_wp2_with fail
             go_roundw
             case rel => exact ⟨j + 1,2 * P,M + P,by omega,HJ,by omega,by omega,lH (by rw [HB.out,HM.out]),by omega,by go_num,by go_num,lH (since_drewN HSI.out _)⟩
             case measure => simp [intOf]; omega
         · have hP256:P = 256:=by rw [HP.out,show j = 8 from by omega]
           subst hP256
           have hMe:M = X ^^^ Y:=by rw [HM.out]; exact Nat.mod_eq_of_lt (Nat.xor_lt_two_pow (n:=8) hs1 ht1)
           have HME:=lH hMe
           clear hMe
           have g:=run_convert_bytes_arg (P:=Tryz.prog) (wr.alloc (.cells #[.int .u8 (M:Int)] 5)) 114 5 Tryz.underlying114 Tryz.underlying5 wr.heap.size 0 1 1 [(M:Int)] rfl (fun i hi => by
             obtain rfl:i = 0:=by omega
             rw [Nat.zero_add,(World.rowIs_alloc wr #[.int .u8 (M:Int)] 5 (fun _ => .int .u8 (M:Int)) (fun j hj => by
               obtain rfl:j = 0:=by simp at hj; omega
               rfl)).cell (Nat.lt_succ_self 0)]; rfl) 9 Tryz.underlying9
           have hsz:¬ 9223372036854775807 < (strOfNums ((List.range k).map (Oct.xorV s.data.toList t.data.toList))).size + (strOfNums [(M:Int)]).size:=by
             rw [strOfNums_size,strOfNums_size]; simp; omega
           go_wp2_with fail
           go_roundw
           case rel =>
             refine ⟨k + 1,by omega,by go_num, ?_,lH (HSI.out.alloc _)⟩
             refine congrArg Value.string (ba_ext ?_)
             rw [app_list,nums_list,nums_list,nums_list,List.range_succ,List.map_append,List.map_append]
             simp only [List.map_cons,List.map_nil]
             rw [HXV.out,HME.out]
           case measure => simp [intOf]; omega
     · have hkn:k = n:=by rw [HN.out]; have:=HN.out; omega
       have HK:=lH hkn
       clear hkn
       go_wp2_with fail
       go_ret
       rw [<- HK.out]
       exact ⟨rfl,HS.out⟩
   · have hkn:k = n:=by have:=HN.out; omega
     have HK:=lH hkn
     clear hkn
     go_wp2_with fail
     go_ret
     rw [<- HK.out]
     exact ⟨rfl,HS.out⟩
end RefOct
end Go.Proofs.YtddlaafpianjbaaGreatDoor
