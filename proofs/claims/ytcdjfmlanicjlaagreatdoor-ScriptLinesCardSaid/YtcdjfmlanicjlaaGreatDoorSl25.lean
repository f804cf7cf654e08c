import Derived.Test.YtcdjfmlanicjlaaGreatDoorSl23
import Derived.Test.YtcdjfmlanicjlaaGreatDoorSl7
import Derived.Test.YtcdjfmlanicjlaaGreatDoorSl12
set_option maxRecDepth 100000
namespace Go.Proofs.YtcdjfmlanicjlaaGreatDoor
open Go.RowKit
namespace Dig
set_option maxHeartbeats 400000 in
theorem value_any (c:Nat) (w:World) (hc:c < 256) :
   Calls Tryz.prog 37 #[.int .u8 (c:Int)] w fun e w' => e = .returned (.int .i64 (val c)) /\ w = w':=by
 by_cases h1:48 <= c
 · by_cases h2:c <= 57
   · have hv:val c = (c:Int) - 48:=by unfold val; rw [if_pos ⟨h1,h2⟩]
     go_enter Tryz.func37,Tryz.ntmps37
     go_wp2
     go_ret
     exact ⟨by rw [hv]; simp,rfl⟩
   · by_cases h3:65 <= c
     · by_cases h4:c <= 70
       · have hv:val c = (c:Int) - 55:=by unfold val; rw [if_neg (by omega),if_pos ⟨h3,h4⟩]
         have HV:=lH hv
         clear hv
         go_enter Tryz.func37,Tryz.ntmps37
         go_wp2
         go_ret
         refine ⟨?_,rfl⟩
         rw [HV.out]; simp; omega
       · have hv:val c = -1:=by unfold val; rw [if_neg (by omega),if_neg (by omega)]
         rw [hv]
         clear hv
         go_enter Tryz.func37,Tryz.ntmps37
         go_wp2
         go_ret
         exact ⟨by first | rfl | rw [hv],rfl⟩
     · have hv:val c = -1:=by unfold val; rw [if_neg (by omega),if_neg (by omega)]
       go_enter Tryz.func37,Tryz.ntmps37
       go_wp2
       go_ret
       exact ⟨by first | rfl | rw [hv],rfl⟩
 · have hv:val c = -1:=by unfold val; rw [if_neg (by omega),if_neg (by omega)]
   go_enter Tryz.func37,Tryz.ntmps37
   go_wp2
   go_ret
   exact ⟨by first | rfl | rw [hv],rfl⟩
set_option maxHeartbeats 1000000 in
theorem hex_any (s:ByteArray) (w:World) (hm:s.size <= 70368744177664) :
   Calls Tryz.prog 25 #[.string s] w fun e w' => e = .returned (.string (bs (hexL s.data.toList))) /\ Below w.heap.size w w':=by
 have hmk:∀ w:World,(Instr.makeSlice 69 (.int .i64 (2 * (s.size:Int))) (.int .i64 (2 * (s.size:Int)))).run Tryz.prog w = .ok (.slice (some ⟨w.heap.size,0,none⟩) (2 * s.size) (2 * s.size)) (w.alloc (.cells (madeCells #[.int .u8 0] (2 * s.size)) 5)):=fun w => by
   have h:=run_make_row' (P:=Tryz.prog) 69 5 (.int .u8 0) 1 Tryz.underlying69 info5 rfl .i64 .i64 (2 * s.size) (by omega) (by omega) w
   rwa [show ((2 * s.size:Nat):Int) = 2 * (s.size:Int) by omega] at h
 go_enter Tryz.func25,Tryz.ntmps25
 go_wp2
 go_loopw [11] (fun i wr => ∃ k:Nat,k <= s.size /\ i = .int .i64 (k:Int) /\ Hid (wr.rowIs w.heap.size 5 (2 * s.size) (fun j => if j < 2 * k then hexC s.data.toList j else .int .u8 0)) /\ Hid (Below w.heap.size w wr)) (fun i _ => s.size - (intOf i).toNat)
 case atStart =>
   exact ⟨0,by omega,rfl,lH ((World.rowIs_made w (.int .u8 0) (2 * s.size) 5).congr fun j _ => by simp),lH ((Below.refl _ _).alloc (Nat.le_refl _) _)⟩
 case round =>
   obtain ⟨k,hk,rfl,HR,HB⟩:=hrel
   by_cases hlt:k < s.size
   · have hc1:=HR.out.cell (i:=2 * k) (by omega)
     have hf1:=HR.out.frozen (2 * k)
     have hc2:∀ v,(wr.setCell ⟨w.heap.size,2 * k,none⟩ v).cell? ⟨w.heap.size,2 * k + 1,none⟩ = some (.int .u8 0):=fun v => by
       have h:=(HR.out.set (2 * k) v).cell (i:=2 * k + 1) (by omega)
       rw [if_neg (by omega),if_neg (by omega)] at h
       exact h
     have hf2:∀ v,(wr.setCell ⟨w.heap.size,2 * k,none⟩ v).frozen? ⟨w.heap.size,2 * k + 1,none⟩ = false:=fun v => (HR.out.set _ v).frozen _
     have hb:=s[k].toNat_lt
     go_wp2_with fail
     go_roundw
     case rel =>
       have hw1:=(HR.out.set (2 * k) (.int .u8 ((sign (s[k].toNat / 16)).toNat:Int))).set (2 * k + 1) (.int .u8 ((sign (s[k].toNat % 16)).toNat:Int))
       refine ⟨k + 1,by omega,by go_num,lH ?_,lH ((HB.out.setCell (p:=⟨w.heap.size,2 * k,none⟩) (Nat.le_refl _) _).setCell (p:=⟨w.heap.size,2 * k + 1,none⟩) (Nat.le_refl _) _)⟩
       rw [sign_at,sign_at]
       refine hw1.congr fun j hj => ?_
       by_cases h1:j = 2 * k + 1
       · subst h1
         rw [if_pos rfl,if_pos (by omega)]
         unfold hexC
         rw [if_neg (by omega),show (2 * k + 1) / 2 = k from by omega,getD_at s k hlt]
       · by_cases h2:j = 2 * k
         · subst h2
           rw [if_neg h1,if_pos rfl,if_pos (by omega)]
           unfold hexC
           rw [if_pos (by omega),show 2 * k / 2 = k from by omega,getD_at s k hlt]
         · rw [if_neg h1,if_neg h2]
           by_cases h3:j < 2 * k
           · rw [if_pos h3,if_pos (by omega)]
           · rw [if_neg h3,if_neg (by omega)]
     case measure => simp [intOf]; omega
   · obtain rfl:k = s.size:=by omega
     have hlen:=hexL_len s.data.toList
     have g:=run_convert_bytes_arg (P:=Tryz.prog) wr 69 5 Tryz.underlying69 Tryz.underlying5 w.heap.size 0 (2 * s.size) (2 * s.size) ((hexL s.data.toList).map fun c => (c.toNat:Int)) (by rw [List.length_map,hlen]; rfl) (fun i hi => by
       rw [Nat.zero_add,HR.out.cell hi,if_pos hi,hexL_at s.data.toList i hi]) 9 Tryz.underlying9
     rw [nums_bytes] at g
     generalize hxx:bs (hexL s.data.toList) = x at *
     have HX:=lH hxx
     clear hxx
     go_wp2_with fail
     go_ret
     rw [HX.out]
     exact ⟨rfl,HB.out⟩
theorem qval (c:Nat) (hc:c < 256) (h:Int) (hh:val c = h) (W:World):Calls Tryz.prog 37 #[.int .u8 (c:Int)] W fun e w' => e = .returned (.int .i64 h) /\ w' = W:=by
 subst hh; exact (value_any c W hc).mono fun _ _ ⟨he,hw⟩ => ⟨he,hw.symm⟩
set_option maxHeartbeats 400000 in
theorem unhex_odd (s:ByteArray) (w:World) (hm:s.size <= 140737488355328) (h:s.size % 2 = 1) :
   Calls Tryz.prog 21 #[.string s] w fun e w' => e = .returned (.tuple #[.string ⟨#[]⟩,.bool false]) /\ Since w w':=by
 have hb:((s.size:Int) % 2 != 0) = true:=by rw [bne_iff_ne]; omega
 clear h
 go_enter Tryz.func21,Tryz.ntmps21
 go_wp2
 go_ret2
 exact ⟨rfl,Since.refl w⟩
set_option maxHeartbeats 1000000 in
theorem unhex_even (s:ByteArray) (m:Nat) (w:World) (hm:s.size <= 140737488355328) (h:s.size = 2 * m) (X:ByteArray) (B:Bool) (hB:B = okN s.data.toList m) (hX:X = if okN s.data.toList m = true then strOfNums ((List.range m).map (pairV s.data.toList)) else ⟨#[]⟩) :
   Calls Tryz.prog 21 #[.string s] w fun e w' => e = .returned (.tuple #[.string X,.bool B]) /\ Since w w':=by
 have HBB:=lH hB
 have HXX:=lH hX
 clear hB hX
 have hmk:∀ w:World,(Instr.makeSlice 69 (.int .i64 (m:Int)) (.int .i64 (m:Int))).run Tryz.prog w = .ok (.slice (some ⟨w.heap.size,0,none⟩) m m) (w.alloc (.cells (madeCells #[.int .u8 0] m) 5)):=fun w =>
   run_make_row' (P:=Tryz.prog) 69 5 (.int .u8 0) 1 Tryz.underlying69 info5 rfl .i64 .i64 m (by omega) (by omega) w
 have hb:((s.size:Int) % 2 != 0) = false:=by rw [bne_eq_false_iff_eq]; omega
 have hd:(s.size:Int) / 2 = (m:Int):=by omega
 have hle:2 * m <= s.size:=by omega
 have HH:=lH h
 clear h
 go_enter Tryz.func21,Tryz.ntmps21
 go_wp2
 clear hmk hb hd
 go_loopw [18] (fun i wr => ∃ k:Nat,k <= m /\ i = .int .i64 (k:Int) /\ Hid (okN s.data.toList k = true) /\ Hid (wr.rowIs w.heap.size 5 m (fun j => if j < k then .int .u8 (pairV s.data.toList j) else .int .u8 0)) /\ Hid (Since w wr)) (fun i _ => m - (intOf i).toNat)
 case atStart =>
   exact ⟨0,by omega,rfl,lH rfl,lH ((World.rowIs_made w (.int .u8 0) m 5).congr fun j _ => by simp),lH ((Since.refl w).alloc _)⟩
 case round =>
   obtain ⟨k,hk,rfl,HO,HR,HS⟩:=hrel
   by_cases hlt:k < m
   · have k1:2 * k < s.size:=by omega
     have k2:2 * k + 1 < s.size:=by omega
     have hs:=okN_succ s.data.toList k
     have hp:pairV s.data.toList k = 16 * hi s.data.toList k + lo s.data.toList k:=rfl
     obtain ⟨a,ha⟩:∃ a,s[2 * k].toNat = a:=⟨_,rfl⟩
     obtain ⟨b,hb⟩:∃ b,s[2 * k + 1].toNat = b:=⟨_,rfl⟩
     have ha2:a < 256:=by rw [<- ha]; exact s[2 * k].toNat_lt
     have hb2:b < 256:=by rw [<- hb]; exact s[2 * k + 1].toNat_lt
     have hva:val a = hi s.data.toList k:=by unfold hi; rw [getD_at s _ k1,ha]
     have hvb:val b = lo s.data.toList k:=by unfold lo; rw [getD_at s _ k2,hb]
     have va:=val_lt a
     have vb:=val_lt b
     rw [hva] at va
     rw [hvb] at vb
     have C1:=lH (fun W => qval a ha2 _ hva W)
     have C2:=lH (fun W => qval b hb2 _ hvb W)
     clear hva hvb
     generalize hi s.data.toList k = x at *
     generalize lo s.data.toList k = y at *
     have HSS:=lH hs
     have HPP:=lH hp
     clear hs hp
     have hc:=HR.out.cell (i:=k) hlt
     have hf:=HR.out.frozen k
     have e1:IntKind.i64.wrap (2 * (k:Int)) = 2 * (k:Int):=IntWalk.i64_in _ (by omega)
     have e2:IntKind.i64.wrap (2 * (k:Int) + 1) = 2 * (k:Int) + 1:=IntWalk.i64_in _ (by omega)
     have n1:(2 * (k:Int)).toNat = 2 * k:=by omega
     have n2:(2 * (k:Int) + 1).toNat = 2 * k + 1:=by omega
     have q1:(0:Int) <= 2 * (k:Int):=by omega
     have q2:(0:Int) <= 2 * (k:Int) + 1:=by omega
     have l1:2 * (k:Int) < (s.size:Int):=by omega
     have l2:2 * (k:Int) + 1 < (s.size:Int):=by omega
     go_wp2_with fail
     go_quiet (first | (go_at_call 37; with_reducible exact Calls.quiet_of_same (C1.out _)) | (go_at_call 37; with_reducible exact Calls.quiet_of_same (C2.out _)))
     clear e1 e2 n1 n2 q1 q2 l1 l2
     have hno:okN s.data.toList (k + 1) = false -> okN s.data.toList m = false:=fun h => by
       cases hc:okN s.data.toList m with
       | false => rfl
       | true => rw [okN_le _ _ _ hc (by omega)] at h; cases h
     have HNO:=lH hno
     clear hno
     by_cases hx:0 <= x
     · by_cases hy:0 <= y
       · go_wp2_with fail
         go_roundw
         case rel =>
           refine ⟨k + 1,by omega,by go_num,lH (by rw [HSS.out,HO.out]; simp [hx,hy]),lH ((HR.out.set k _).drew.congr fun j hj => ?_),lH (Below.setCell (w:=wr.drewN _) (HS.out.step ⟨rfl,rfl,rfl,Nat.le_refl _,fun _ _ => rfl⟩) (p:=⟨w.heap.size,k,none⟩) (Nat.le_refl _) _)⟩
           by_cases h1:j = k
           · subst h1; rw [if_pos rfl,if_pos (by omega),HPP.out]
           · by_cases h2:j < k
             · simp [h1,h2,show j < k + 1 from by omega]
             · simp [h1,h2,show ¬ j < k + 1 from by omega]
         case measure => simp [intOf]; omega
       · have hf9:=HNO.out (by rw [HSS.out]; simp [hy])
         have HF:=lH hf9
         clear hf9
         have hX0:X = ⟨#[]⟩:=by rw [HXX.out,HF.out]; rfl
         have hB0:B = false:=by rw [HBB.out,HF.out]
         subst hX0 hB0
         go_wp2_with fail
         go_ret2
         exact ⟨rfl,Since.step (w':=wr.drewN _) HS.out ⟨rfl,rfl,rfl,Nat.le_refl _,fun _ _ => rfl⟩⟩
     · have hf9:=HNO.out (by rw [HSS.out]; simp [hx])
       have HF:=lH hf9
       clear hf9
       have hX0:X = ⟨#[]⟩:=by rw [HXX.out,HF.out]; rfl
       have hB0:B = false:=by rw [HBB.out,HF.out]
       subst hX0 hB0
       go_wp2_with fail
       go_ret2
       exact ⟨rfl,Since.step (w':=wr.drewN _) HS.out ⟨rfl,rfl,rfl,Nat.le_refl _,fun _ _ => rfl⟩⟩
   · obtain rfl:k = m:=by omega
     have hB0:B = true:=by rw [HBB.out,HO.out]
     have hX0:X = strOfNums ((List.range k).map (pairV s.data.toList)):=by rw [HXX.out,HO.out]; rfl
     subst hB0
     have g:=run_convert_bytes_arg (P:=Tryz.prog) wr 69 5 Tryz.underlying69 Tryz.underlying5 w.heap.size 0 k k ((List.range k).map (pairV s.data.toList)) (by simp) (fun i hi => by
       rw [Nat.zero_add,HR.out.cell hi,if_pos hi]; simp [List.getD,hi]) 9 Tryz.underlying9
     rw [<- hX0] at g
     clear hX0
     go_wp2_with fail
     go_ret2
     exact ⟨rfl,HS.out⟩
end Dig
namespace Dig
def numD (l:List UInt8):Nat:=l.foldl (fun n c => 10 * n + (c.toNat - 48)) 0
def isD (c:UInt8):Bool:=decide (48 <= c.toNat) && decide (c.toNat <= 57)
theorem numD_snoc (l:List UInt8) (c:UInt8):numD (l ++ [c]) = 10 * numD l + (c.toNat - 48):=by unfold numD; rw [List.foldl_append]; rfl
theorem take_snoc (s:ByteArray) (k:Nat) (h:k < s.size):s.data.toList.take (k + 1) = s.data.toList.take k ++ [s[k]]:=by
 rw [List.take_succ_eq_append_getElem (by simpa using h)]; rfl
theorem all_take (l:List UInt8) (k:Nat) (h:l.all isD = true):(l.take k).all isD = true:=by
 rw [List.all_eq_true] at *
 exact fun x hx => h x (List.mem_of_mem_take hx)
def dg (n j:Nat):Int:=48 + ((n / 10 ^ j % 10:Nat):Int)
end Dig
namespace Dig
theorem getD_get (l:List UInt8) (i:Nat) (x:UInt8) (h:l[i]? = some x):l.getD i 0 = x:=by unfold List.getD; rw [h]; rfl
theorem hi_hex (l:List UInt8) (j:Nat) (hj:j < l.length):hi (hexL l) j = (((l.getD j 0).toNat / 16:Nat):Int) /\ lo (hexL l) j = (((l.getD j 0).toNat % 16:Nat):Int):=by
 have hc:=(l.getD j 0).toNat_lt
 have h1:=hexL_get l (2 * j) (by omega)
 have h2:=hexL_get l (2 * j + 1) (by omega)
 rw [if_pos (by omega),show 2 * j / 2 = j from by omega] at h1
 rw [if_neg (by omega),show (2 * j + 1) / 2 = j from by omega] at h2
 unfold hi lo
 rw [getD_get _ _ _ h1,getD_get _ _ _ h2]
 exact ⟨val_sign _ _ (by omega) rfl,val_sign _ _ (by omega) rfl⟩
theorem ok_hex (l:List UInt8):okN (hexL l) l.length = true:=by
 unfold okN
 rw [List.all_eq_true]
 intro j hj
 obtain ⟨h1,h2⟩:=hi_hex l j (List.mem_range.1 hj)
 rw [h1,h2]
 simp
 omega
theorem pair_hex (l:List UInt8):((List.range l.length).map (pairV (hexL l))).map (fun n => UInt8.ofNat n.toNat) = l:=by
 apply List.ext_getElem?
 intro i
 by_cases h:i < l.length
 · obtain ⟨h1,h2⟩:=hi_hex l i h
   have hg:l.getD i 0 = l[i]:=by simp [List.getD,h]
   rw [hg] at h1 h2
   have hp:(pairV (hexL l) i).toNat = l[i].toNat:=by unfold pairV; rw [h1,h2]; omega
   rw [List.map_map,List.getElem?_map,List.getElem?_range h,List.getElem?_eq_getElem h]
   show some (UInt8.ofNat (pairV (hexL l) i).toNat) = _
   rw [hp,UInt8.ofNat_toNat]
 · rw [List.getElem?_eq_none (by simp; omega),List.getElem?_eq_none (by omega)]
def digs:Nat -> Nat -> List UInt8
 | 0,_ => []
 | f+1,M => if M < 10 then [UInt8.ofNat (48 + M)] else digs f (M / 10) ++ [UInt8.ofNat (48 + M % 10)]
theorem digs_map (f:Nat):∀ (L M:Nat),1 <= L -> L <= f -> M < 10 ^ L -> (L = 1 ∨ 10 ^ (L - 1) <= M) -> digs f M = (List.range L).map fun i => UInt8.ofNat (dg M (L - 1 - i)).toNat:=by
 induction f with
 | zero => intro L M h1 h2; omega
 | succ f ih =>
   intro L M h1 h2 h3 h4
   unfold digs
   by_cases hM:M < 10
   · have hL:L = 1:=by
       rcases h4 with h | h
       · exact h
       · apply Classical.byContradiction
         intro hne
         have h6:10 ^ 1 <= 10 ^ (L - 1):=Nat.pow_le_pow_right (by decide) (by omega)
         omega
     subst hL
     rw [if_pos hM]
     have h5:(dg M 0).toNat = 48 + M:=by unfold dg; rw [Nat.pow_zero,Nat.div_one,Nat.mod_eq_of_lt hM]; omega
     show [UInt8.ofNat (48 + M)] = [UInt8.ofNat (dg M 0).toNat]
     rw [h5]
   · rw [if_neg hM]
     have hL:2 <= L:=by
       apply Classical.byContradiction
       intro hne
       have:L = 1:=by omega
       subst this
       omega
     obtain ⟨K,rfl⟩:∃ K,L = K + 1:=⟨L - 1,by omega⟩
     rw [ih K (M / 10) (by omega) (by omega) (by rw [Nat.pow_succ] at h3; omega) (by
       rcases h4 with h | h
       · omega
       · by_cases hK:K = 1
         · exact Or.inl hK
         · right
           have h7:10 ^ (K - 1) * 10 = 10 ^ K:=by rw [<- Nat.pow_succ,show (K - 1).succ = K from by omega]
           simp at h
           rw [Nat.le_div_iff_mul_le (by decide),h7]; exact h)]
     rw [List.range_succ,List.map_append,List.map_cons,List.map_nil]
     congr 1
     · apply List.map_congr_left
       intro i hi
       have hi':=List.mem_range.1 hi
       unfold dg
       rw [Nat.div_div_eq_div_mul,Nat.mul_comm 10,<- Nat.pow_succ,show (K - 1 - i).succ = K + 1 - 1 - i from by omega]
     · unfold dg
       rw [show K + 1 - 1 - K = 0 from by omega,Nat.pow_zero,Nat.div_one]
       congr 2
def step (n:Int) (c:UInt8):Int:=if 48 <= c.toNat /\ c.toNat <= 57 then wrap64 (10 * n - ((c.toNat:Int) - 48)) else n
theorem step_dig (n:Int) (d:Nat) (hd:d < 10):step n (UInt8.ofNat (48 + d)) = wrap64 (10 * n - d):=by
 have h:(UInt8.ofNat (48 + d)).toNat = 48 + d:=by rw [UInt8.toNat_ofNat']; omega
 unfold step
 rw [h,if_pos (by omega)]
 congr 1
 omega
theorem fold_digs (f:Nat):∀ M:Nat,M < 10 ^ f -> M <= 9223372036854775808 -> (digs f M).foldl step 0 = -(M:Int):=by
 induction f with
 | zero => intro M h _; simp at h; subst h; rfl
 | succ f ih =>
   intro M h1 h2
   unfold digs
   by_cases hM:M < 10
   · rw [if_pos hM]
     show step 0 (UInt8.ofNat (48 + M)) = _
     rw [step_dig 0 M hM,IntWalk.wrap64_in _ (by omega)]; omega
   · rw [if_neg hM,List.foldl_append,ih (M / 10) (by rw [Nat.pow_succ] at h1; omega) (by omega)]
     show step _ (UInt8.ofNat (48 + M % 10)) = _
     rw [step_dig _ _ (Nat.mod_lt _ (by decide)),IntWalk.wrap64_in _ (by omega)]; omega
def numS (n:Int):List UInt8:=if n < 0 then 45 :: digs 20 n.natAbs else digs 20 n.natAbs
def unF (t:List UInt8):Int:=t.foldl step 0
def unV (t:List UInt8):Int:=if t ≠ [] /\ t.head? ≠ some 45 then wrap64 (-(unF t)) else unF t
theorem digs_head (f M:Nat) (hf:1 <= f):digs f M ≠ [] /\ (digs f M).head? ≠ some 45:=by
 induction f generalizing M with
 | zero => omega
 | succ f ih =>
   unfold digs
   by_cases hM:M < 10
   · rw [if_pos hM]
     refine ⟨by simp, ?_⟩
     intro h
     have h2:UInt8.ofNat (48 + M) = 45:=by simpa using h
     have h3:=congrArg UInt8.toNat h2
     rw [UInt8.toNat_ofNat'] at h3
     have h4:(45:UInt8).toNat = 45:=rfl
     omega
   · rw [if_neg hM]
     refine ⟨by simp, ?_⟩
     by_cases hf:f = 0
     · subst hf
       intro h
       have h2:UInt8.ofNat (48 + M % 10) = 45:=by simpa [digs] using h
       have h3:=congrArg UInt8.toNat h2
       rw [UInt8.toNat_ofNat'] at h3
       have h4:(45:UInt8).toNat = 45:=rfl
       omega
     · obtain ⟨h1,h2⟩:=ih (M / 10) (by omega)
       rw [List.head?_append]
       cases hd:digs f (M / 10) with
       | nil => exact absurd hd h1
       | cons x l => rw [hd] at h2; simpa using h2
theorem unV_numS (n:Int) (h:-9223372036854775808 <= n /\ n <= 9223372036854775807):unV (numS n) = n:=by
 have hlt:n.natAbs < 10 ^ 20:=Nat.lt_of_le_of_lt (show n.natAbs <= 9223372036854775808 by omega) (by decide)
 unfold unV numS
 by_cases h0:n < 0
 · rw [if_pos h0,if_neg (by simp)]
   have h1:unF (45 :: digs 20 n.natAbs) = (digs 20 n.natAbs).foldl step 0:=by
     unfold unF
     show (digs 20 n.natAbs).foldl step (step 0 45) = _
     rfl
   rw [h1,fold_digs 20 _ hlt (by omega)]; omega
 · rw [if_neg h0,if_pos (digs_head 20 _ (by decide))]
   unfold unF
   rw [fold_digs 20 _ hlt (by omega),IntWalk.wrap64_in _ (by omega)]; omega
theorem wrap_sub (a b:Int):wrap64 (wrap64 a - b) = wrap64 (a - b):=by unfold wrap64; omega
end Dig
namespace Dig
theorem slice20 (k b:Nat) (h0:1 <= k) (h1:k <= 20):∀ w:World,
   (Instr.sliceAt 109 (.pointer (some ⟨b,0,none⟩)) (some (.int .i64 (20 - (k:Int)))) none none).run Tryz.prog w = .ok (.slice (some ⟨b,20 - k,none⟩) k k) w:=by
 intro w
 rcases (show k = 1 ∨ k = 2 ∨ k = 3 ∨ k = 4 ∨ k = 5 ∨ k = 6 ∨ k = 7 ∨ k = 8 ∨ k = 9 ∨ k = 10 ∨ k = 11 ∨ k = 12 ∨ k = 13 ∨ k = 14 ∨ k = 15 ∨ k = 16 ∨ k = 17 ∨ k = 18 ∨ k = 19 ∨ k = 20 by omega) with rfl | rfl | rfl | rfl | rfl | rfl | rfl | rfl | rfl | rfl | rfl | rfl | rfl | rfl | rfl | rfl | rfl | rfl | rfl | rfl <;> kernel_rfl
theorem neg_mod (r:Int) (q:Nat) (h:r = -(q:Int)):r.tmod 10 = -((q % 10:Nat):Int):=by
 rw [h,Int.neg_tmod,Int.tmod_eq_emod_of_nonneg (by omega)]; simp
theorem neg_div (r:Int) (q:Nat) (h:r = -(q:Int)):r.tdiv 10 = -((q / 10:Nat):Int):=by
 rw [h,Int.neg_tdiv,Int.tdiv_eq_ediv_of_nonneg (by omega)]; simp
set_option maxHeartbeats 2000000 in
theorem num_pos (n:Int) (M:Nat) (w:World) (hn:0 < n) (hM:-n = -(M:Int)) (hM2:M <= 9223372036854775807) (_hlo:-9223372036854775808 <= n) (X:ByteArray)
   (hX:∀ L,1 <= L -> M < 10 ^ L -> (L = 1 ∨ 10 ^ (L - 1) <= M) -> X = strOfNums ((List.range L).map fun i => dg M (L - 1 - i))) :
   Calls Tryz.prog 70 #[.int .i64 n] w fun e w' => e = .returned (.string X) /\ Since w w':=by
 have HX:=lH hX
 have HM:=lH hM
 have hn9:n <= 9223372036854775807:=by omega
 clear hX hM
 go_enter Tryz.func70,Tryz.ntmps70
 go_wp2
 go_loopw [4,5] (fun a v wr => ∃ (k:Nat) (r:Int),k <= 19 /\ a = .int .i64 (20 - (k:Int)) /\ v = .int .i64 r /\ Hid (r = -((M / 10 ^ k:Nat):Int)) /\ r <= 0 /\ -9223372036854775808 <= r /\ Hid (k <= 1 ∨ 10 ^ (k - 1) <= M) /\
     Hid (wr.rowIs w.heap.size 109 20 (fun j => if 20 <= j + k /\ j < 20 then .int .u8 (dg M (19 - j)) else .int .u8 0)) /\ Hid (Since w wr)) (fun a _ _ => (intOf a).toNat)
 case atStart =>
   refine ⟨0,-n,by omega,rfl,rfl,lH (by rw [HM.out,Nat.pow_zero,Nat.div_one]),by omega,by omega,lH (Or.inl (by omega)),lH ?_,lH ((Since.refl w).alloc _)⟩
   refine (World.rowIs_alloc w _ _ (fun _ => .int .u8 0) (fun i hi => by
       match i,hi with
       | 0,_ | 1,_ | 2,_ | 3,_ | 4,_ | 5,_ | 6,_ | 7,_ | 8,_ | 9,_ | 10,_ | 11,_ | 12,_ | 13,_ | 14,_ | 15,_ | 16,_ | 17,_ | 18,_ | 19,_ => rfl
       | n + 20,hi => simp at hi; omega)).congr fun j _ => by rw [if_neg (by omega)]
 case round =>
   obtain ⟨k,r,hk,rfl,rfl,HR0,hr0,hr1,HK,HR,HS⟩:=hrel
   by_cases hgo:r = 0 /\ 1 <= k
   · obtain ⟨hr,hk1⟩:=hgo
     have hlt2:M < 10 ^ k:=by
       have h9:=HR0.out
       rw [hr] at h9
       have h8:M / 10 ^ k = 0:=by omega
       exact (Nat.div_eq_zero_iff.1 h8).resolve_left (Nat.ne_of_gt (Nat.pow_pos (by decide)))
     have hXX := HX.out k hk1 hlt2 (by rcases HK.out with h | h
                                       · exact Or.inl (by omega)
                                       · exact Or.inr h)
     have hb20:(20 - (k:Int) == 20) = false:=by rw [beq_eq_false_iff_ne]; omega
     have HXX:=lH hXX
     clear hXX hlt2
     subst hr
     have hsl:=slice20 k w.heap.size hk1 (by omega)
     have g:=run_convert_bytes_arg (P:=Tryz.prog) wr 69 5 Tryz.underlying69 Tryz.underlying5 w.heap.size (20 - k) k k ((List.range k).map fun i => dg M (k - 1 - i)) (by simp) (fun i hi => by
       rw [HR.out.cell (by omega),if_pos (by omega),show 19 - (20 - k + i) = k - 1 - i from by omega]; simp [List.getD,hi]) 9 Tryz.underlying9
     rw [<- HXX.out] at g
     go_wp2_with fail
     go_ret
     exact ⟨rfl,HS.out⟩
   · have hr9:r ≠ 0 ∨ k = 0:=by omega
     have hk18:k <= 18:=by
       rcases hr9 with h | h
       · apply Classical.byContradiction
         intro h7
         have h6:M / 10 ^ k = 0:=Nat.div_eq_of_lt (Nat.lt_of_le_of_lt hM2 (Nat.lt_of_lt_of_le (show (9223372036854775807:Nat) < 10 ^ 19 by decide) (Nat.pow_le_pow_right (by decide) (by omega))))
         have h5:=HR0.out
         omega
       · omega
     have hts:r.tmod 10 = -((M / 10 ^ k % 10:Nat):Int):=by exact neg_mod _ _ HR0.out
     have htd:r.tdiv 10 = -((M / 10 ^ (k + 1):Nat):Int):=by rw [Nat.pow_succ,<- Nat.div_div_eq_div_mul]; exact neg_div _ _ HR0.out
     have hkk:k + 1 <= 1 ∨ 10 ^ (k + 1 - 1) <= M:=by
       rcases hr9 with h | h
       · right
         apply Classical.byContradiction
         intro h7
         have h6:M / 10 ^ k = 0:=Nat.div_eq_of_lt (by simpa using h7)
         have h5:=HR0.out
         omega
       · left; omega
     have HKK:=lH hkk
     clear hkk
     obtain ⟨t,ht⟩:∃ t,t = r.tmod 10:=⟨_,rfl⟩
     obtain ⟨r',hr'⟩:∃ r',r' = r.tdiv 10:=⟨_,rfl⟩
     have e1:r.tmod 10 = t:=ht.symm
     have e2:r.tdiv 10 = r':=hr'.symm
     rw [<- ht] at hts
     rw [<- hr'] at htd
     have ht1:-9 <= t /\ t <= 0:=by rw [hts]; omega
     obtain ⟨ht1,ht2⟩:=ht1
     have hr23:r' <= 0 /\ -9223372036854775808 <= r':=by
       have h4:M / 10 ^ (k + 1) <= M:=Nat.div_le_self _ _
       rw [htd]
       generalize M / 10 ^ (k + 1) = Q at h4
       omega
     obtain ⟨hr2,hr3⟩:=hr23
     have HT:=lH hts
     have HTD:=lH htd
     clear hts htd ht hr'
     have hc:=HR.out.cell (i:=19 - k) (by omega)
     rw [if_neg (by omega)] at hc
     have hf:=HR.out.frozen (19 - k)
     have q1:(20 - (k:Int) - 1).toNat = 19 - k:=by omega
     by_cases hrz:r = 0
     · have hk0:k = 0:=by omega
       subst hk0
       exfalso
       have h9:=HR0.out
       rw [Nat.pow_zero,Nat.div_one] at h9
       have h8:=HM.out
       omega
     · have hbz:(r != 0) = true:=by rw [bne_iff_ne]; exact hrz
       clear hrz
       go_wp2_with fail
       go_roundw
       case rel =>
         refine ⟨k + 1,r',by omega,by first | rfl | go_num | (congr 1; omega),by first | rfl | simp,HTD,hr2,hr3,HKK,lH ((HR.out.set (19 - k) _).congr fun j hj => ?_),lH (Below.setCell HS.out (p:=⟨w.heap.size,19 - k,none⟩) (Nat.le_refl _) _)⟩
         by_cases h9:j = 19 - k
         · rw [if_pos h9,if_pos (by omega)]
           unfold dg
           rw [show 19 - j = k from by omega]
           congr 1
           have:=HT.out
           omega
         · rw [if_neg h9]
           by_cases h8:20 <= j + k /\ j < 20
           · rw [if_pos h8,if_pos (by omega)]
           · rw [if_neg h8,if_neg (by omega)]
       case measure => simp [intOf]; omega
set_option maxHeartbeats 2000000 in
theorem num_neg (n:Int) (M:Nat) (w:World) (hn:n < 0) (hM:n = -(M:Int)) (hM2:M <= 9223372036854775808) (hlo:-9223372036854775808 <= n) (X:ByteArray)
   (hX:∀ L,1 <= L -> M < 10 ^ L -> (L = 1 ∨ 10 ^ (L - 1) <= M) -> X = strOfNums (45 :: (List.range L).map fun i => dg M (L - 1 - i))) :
   Calls Tryz.prog 70 #[.int .i64 n] w fun e w' => e = .returned (.string X) /\ Since w w':=by
 have HX:=lH hX
 have HM:=lH hM
 clear hX hM
 go_enter Tryz.func70,Tryz.ntmps70
 go_wp2
 go_loopw [4,5] (fun a v wr => ∃ (k:Nat) (r:Int),k <= 19 /\ a = .int .i64 (20 - (k:Int)) /\ v = .int .i64 r /\ Hid (r = -((M / 10 ^ k:Nat):Int)) /\ r <= 0 /\ -9223372036854775808 <= r /\ Hid (k <= 1 ∨ 10 ^ (k - 1) <= M) /\
     Hid (wr.rowIs w.heap.size 109 20 (fun j => if 20 <= j + k /\ j < 20 then .int .u8 (dg M (19 - j)) else .int .u8 0)) /\ Hid (Since w wr)) (fun a _ _ => (intOf a).toNat)
 case atStart =>
   refine ⟨0,n,by omega,rfl,rfl,lH (by rw [HM.out,Nat.pow_zero,Nat.div_one]),by omega,by omega,lH (Or.inl (by omega)),lH ?_,lH ((Since.refl w).alloc _)⟩
   refine (World.rowIs_alloc w _ _ (fun _ => .int .u8 0) (fun i hi => by
       match i,hi with
       | 0,_ | 1,_ | 2,_ | 3,_ | 4,_ | 5,_ | 6,_ | 7,_ | 8,_ | 9,_ | 10,_ | 11,_ | 12,_ | 13,_ | 14,_ | 15,_ | 16,_ | 17,_ | 18,_ | 19,_ => rfl
       | n + 20,hi => simp at hi; omega)).congr fun j _ => by rw [if_neg (by omega)]
 case round =>
   obtain ⟨k,r,hk,rfl,rfl,HR0,hr0,hr1,HK,HR,HS⟩:=hrel
   by_cases hgo:r = 0 /\ 1 <= k
   · obtain ⟨hr,hk1⟩:=hgo
     have hlt2:M < 10 ^ k:=by
       have h9:=HR0.out
       rw [hr] at h9
       have h8:M / 10 ^ k = 0:=by omega
       exact (Nat.div_eq_zero_iff.1 h8).resolve_left (Nat.ne_of_gt (Nat.pow_pos (by decide)))
     have hXX := HX.out k hk1 hlt2 (by rcases HK.out with h | h
                                       · exact Or.inl (by omega)
                                       · exact Or.inr h)
     have hb20:(20 - (k:Int) == 20) = false:=by rw [beq_eq_false_iff_ne]; omega
     have HXX:=lH hXX
     clear hXX hlt2
     subst hr
     have hsl:∀ w':World,(Instr.sliceAt 109 (.pointer (some ⟨w.heap.size,0,none⟩)) (some (.int .i64 (20 - (k:Int) - 1))) none none).run Tryz.prog w' = .ok (.slice (some ⟨w.heap.size,19 - k,none⟩) (k + 1) (k + 1)) w':=fun w' => by
       have h:=slice20 (k + 1) w.heap.size (by omega) (by omega) w'
       rwa [show 20 - ((k + 1:Nat):Int) = 20 - (k:Int) - 1 from by omega,show 20 - (k + 1) = 19 - k from by omega] at h
     have hc:=HR.out.cell (i:=19 - k) (by omega)
     have hf:=HR.out.frozen (19 - k)
     have q1:(20 - (k:Int) - 1).toNat = 19 - k:=by omega
     have R2:=HR.out.set (19 - k) (.int .u8 45)
     have g:=run_convert_bytes_arg (P:=Tryz.prog) (wr.setCell ⟨w.heap.size,19 - k,none⟩ (.int .u8 45)) 69 5 Tryz.underlying69 Tryz.underlying5 w.heap.size (19 - k) (k + 1) (k + 1) (45 :: (List.range k).map fun i => dg M (k - 1 - i)) (by simp) (fun i hi => by
       rw [R2.cell (by omega)]
       cases i with
       | zero => rw [if_pos (by omega)]; rfl
       | succ i => rw [if_neg (by omega),if_pos (by omega),show 19 - (19 - k + (i + 1)) = k - 1 - i from by omega]; simp [List.getD,show i < k from by omega]) 9 Tryz.underlying9
     rw [<- HXX.out] at g
     clear R2
     go_wp2_with fail
     go_ret
     exact ⟨rfl,Below.setCell HS.out (p:=⟨w.heap.size,19 - k,none⟩) (Nat.le_refl _) _⟩
   · have hr9:r ≠ 0 ∨ k = 0:=by omega
     have hk18:k <= 18:=by
       rcases hr9 with h | h
       · apply Classical.byContradiction
         intro h7
         have h6:M / 10 ^ k = 0:=Nat.div_eq_of_lt (Nat.lt_of_le_of_lt hM2 (Nat.lt_of_lt_of_le (show (9223372036854775808:Nat) < 10 ^ 19 by decide) (Nat.pow_le_pow_right (by decide) (by omega))))
         have h5:=HR0.out
         omega
       · omega
     have hts:r.tmod 10 = -((M / 10 ^ k % 10:Nat):Int):=by exact neg_mod _ _ HR0.out
     have htd:r.tdiv 10 = -((M / 10 ^ (k + 1):Nat):Int):=by rw [Nat.pow_succ,<- Nat.div_div_eq_div_mul]; exact neg_div _ _ HR0.out
     have hkk:k + 1 <= 1 ∨ 10 ^ (k + 1 - 1) <= M:=by
       rcases hr9 with h | h
       · right
         apply Classical.byContradiction
         intro h7
         have h6:M / 10 ^ k = 0:=Nat.div_eq_of_lt (by simpa using h7)
         have h5:=HR0.out
         omega
       · left; omega
     have HKK:=lH hkk
     clear hkk
     obtain ⟨t,ht⟩:∃ t,t = r.tmod 10:=⟨_,rfl⟩
     obtain ⟨r',hr'⟩:∃ r',r' = r.tdiv 10:=⟨_,rfl⟩
     have e1:r.tmod 10 = t:=ht.symm
     have e2:r.tdiv 10 = r':=hr'.symm
     rw [<- ht] at hts
     rw [<- hr'] at htd
     have ht1:-9 <= t /\ t <= 0:=by rw [hts]; omega
     obtain ⟨ht1,ht2⟩:=ht1
     have hr23:r' <= 0 /\ -9223372036854775808 <= r':=by
       have h4:M / 10 ^ (k + 1) <= M:=Nat.div_le_self _ _
       rw [htd]
       generalize M / 10 ^ (k + 1) = Q at h4
       omega
     obtain ⟨hr2,hr3⟩:=hr23
     have HT:=lH hts
     have HTD:=lH htd
     clear hts htd ht hr'
     have hc:=HR.out.cell (i:=19 - k) (by omega)
     rw [if_neg (by omega)] at hc
     have hf:=HR.out.frozen (19 - k)
     have q1:(20 - (k:Int) - 1).toNat = 19 - k:=by omega
     by_cases hrz:r = 0
     · have hk0:k = 0:=by omega
       subst hk0
       exfalso
       have h9:=HR0.out
       rw [Nat.pow_zero,Nat.div_one] at h9
       have h8:=HM.out
       omega
     · have hbz:(r != 0) = true:=by rw [bne_iff_ne]; exact hrz
       clear hrz
       go_wp2_with fail
       go_roundw
       case rel =>
         refine ⟨k + 1,r',by omega,by first | rfl | go_num | (congr 1; omega),by first | rfl | simp,HTD,hr2,hr3,HKK,lH ((HR.out.set (19 - k) _).congr fun j hj => ?_),lH (Below.setCell HS.out (p:=⟨w.heap.size,19 - k,none⟩) (Nat.le_refl _) _)⟩
         by_cases h9:j = 19 - k
         · rw [if_pos h9,if_pos (by omega)]
           unfold dg
           rw [show 19 - j = k from by omega]
           congr 1
           have:=HT.out
           omega
         · rw [if_neg h9]
           by_cases h8:20 <= j + k /\ j < 20
           · rw [if_pos h8,if_pos (by omega)]
           · rw [if_neg h8,if_neg (by omega)]
       case measure => simp [intOf]; omega
set_option maxHeartbeats 1000000 in
theorem num_zero (w:World):Calls Tryz.prog 70 #[.int .i64 0] w fun e w' => e = .returned (.string ⟨#[48]⟩) /\ Since w w':=by
 go_enter Tryz.func70,Tryz.ntmps70
 go_wp2
 go_loopw [4,5] (fun a v wr => v = .int .i64 0 /\ ((a = .int .i64 20 /\ Hid (wr.rowIs w.heap.size 109 20 (fun _ => .int .u8 0))) ∨ (a = .int .i64 19 /\ Hid (wr.rowIs w.heap.size 109 20 (fun j => if j = 19 then .int .u8 48 else .int .u8 0)))) /\ Hid (Since w wr)) (fun a _ _ => (intOf a).toNat)
 case atStart =>
   refine ⟨rfl,Or.inl ⟨rfl,lH ?_⟩,lH ((Since.refl w).alloc _)⟩
   exact World.rowIs_alloc w _ _ (fun _ => .int .u8 0) (fun i hi => by
       match i,hi with
       | 0,_ | 1,_ | 2,_ | 3,_ | 4,_ | 5,_ | 6,_ | 7,_ | 8,_ | 9,_ | 10,_ | 11,_ | 12,_ | 13,_ | 14,_ | 15,_ | 16,_ | 17,_ | 18,_ | 19,_ => rfl
       | n + 20,hi => simp at hi; omega)
 case round =>
   obtain ⟨rfl,hcase,HS⟩:=hrel
   rcases hcase with ⟨rfl,HR⟩ | ⟨rfl,HR⟩
   · have hc:=HR.out.cell (i:=19) (by omega)
     have hf:=HR.out.frozen 19
     go_wp2_with fail
     go_roundw
     case rel => exact ⟨rfl,Or.inr ⟨rfl,lH (HR.out.set 19 _)⟩,lH (Below.setCell HS.out (p:=⟨w.heap.size,19,none⟩) (Nat.le_refl _) _)⟩
     case measure => simp [intOf]
   · have hsl:=slice20 1 w.heap.size (by omega) (by omega)
     have g:=run_convert_bytes_arg (P:=Tryz.prog) wr 69 5 Tryz.underlying69 Tryz.underlying5 w.heap.size 19 1 1 [48] rfl (fun i hi => by
       obtain rfl:i = 0:=by omega
       rw [HR.out.cell (by omega),if_pos (by omega)]; rfl) 9 Tryz.underlying9
     have hsl':∀ w':World,(Instr.sliceAt 109 (.pointer (some ⟨w.heap.size,0,none⟩)) (some (.int .i64 19)) none none).run Tryz.prog w' = .ok (.slice (some ⟨w.heap.size,19,none⟩) 1 1) w':=fun w' => hsl w'
     clear hsl
     go_wp2_with fail
     go_ret
     exact ⟨rfl,HS.out⟩
end Dig
namespace Dig
theorem num_mak (n:Int) (h:-9223372036854775808 <= n /\ n <= 9223372036854775807):Mak 70 #[.int .i64 n] (.string (bs (numS n))):=by
 intro w
 have hd:∀ L,1 <= L -> n.natAbs < 10 ^ L -> (L = 1 ∨ 10 ^ (L - 1) <= n.natAbs) -> digs 20 n.natAbs = (List.range L).map fun i => UInt8.ofNat (dg n.natAbs (L - 1 - i)).toNat:=fun L h1 h2 h3 =>
   digs_map 20 L n.natAbs h1 (by
     rcases h3 with h3 | h3
     · omega
     · apply Classical.byContradiction
       intro hne
       have h5:10 ^ 20 <= 10 ^ (L - 1):=Nat.pow_le_pow_right (by decide) (by omega)
       have h6:(9223372036854775808:Nat) < 10 ^ 20:=by decide
       omega) h2 h3
 rcases (show n < 0 ∨ n = 0 ∨ 0 < n by omega) with h0 | h0 | h0
 · refine num_neg n n.natAbs w h0 (by omega) (by omega) (by omega) _ (fun L h1 h2 h3 => ?_)
   unfold numS
   rw [if_pos h0,hd L h1 h2 h3,bs_nums]
   simp
   rfl
 · subst h0
   exact num_zero w
 · refine num_pos n n.natAbs w h0 (by omega) (by omega) (by omega) _ (fun L h1 h2 h3 => ?_)
   unfold numS
   rw [if_neg (by omega),hd L h1 h2 h3,bs_nums]
   simp
   rfl
set_option maxHeartbeats 1000000 in
theorem unnum_long (s:ByteArray) (w:World) (hm:s.size <= 140737488355328) (h:20 < s.size) :
   Calls Tryz.prog 66 #[.string s] w fun e w' => e = .returned (.tuple #[.int .i64 0,.bool false]) /\ Since w w':=by
 go_enter Tryz.func66,Tryz.ntmps66
 go_wp2
 go_ret2
 exact ⟨rfl,Since.refl w⟩
theorem fold_snoc (l:List UInt8) (c:UInt8):(l ++ [c]).foldl step 0 = step (l.foldl step 0) c:=by rw [List.foldl_append]; rfl
theorem wrap_bounds (a:Int):-9223372036854775808 <= wrap64 a /\ wrap64 a <= 9223372036854775807:=by unfold wrap64; omega
theorem step_bounds (n:Int) (c:UInt8) (h:-9223372036854775808 <= n /\ n <= 9223372036854775807):-9223372036854775808 <= step n c /\ step n c <= 9223372036854775807:=by
 unfold step; split
 · exact wrap_bounds _
 · exact h
theorem fold_bounds (l:List UInt8):∀ q,-9223372036854775808 <= q /\ q <= 9223372036854775807 -> -9223372036854775808 <= l.foldl step q /\ l.foldl step q <= 9223372036854775807:=by
 induction l with
 | nil => intro q h; exact h
 | cons c l ih => intro q h; exact ih _ (step_bounds q c h)
theorem unV_bounds (l:List UInt8):-9223372036854775808 <= unV l /\ unV l <= 9223372036854775807:=by
 unfold unV
 split
 · exact wrap_bounds _
 · exact fold_bounds l 0 (by omega)
set_option maxHeartbeats 2000000 in
theorem unnum_short (s:ByteArray) (w:World) (hs:s.size <= 20) (V0 V:Int) (B:Bool) (h0:V0 = unV s.data.toList) (hB:B = decide (bs (numS V0) = s)) (hV:V = if bs (numS V0) = s then V0 else 0) :
   Calls Tryz.prog 66 #[.string s] w fun e w' => e = .returned (.tuple #[.int .i64 V,.bool B]) /\ Since w w':=by
 have hbd:-9223372036854775808 <= V0 /\ V0 <= 9223372036854775807:=by rw [h0]; exact unV_bounds _
 obtain ⟨hbd1,hbd2⟩:=hbd
 have HB:=lH hB
 clear hB
 have HV:=lH hV
 clear hV
 have HV0:=lH h0
 clear h0
 have H0:=lH (Since.refl w)
 go_enter Tryz.func66,Tryz.ntmps66
 go_wp2
 go_loop [4,11] (fun n i => ∃ (k:Nat) (q:Int),k <= s.size /\ i = .int .i64 (k:Int) /\ n = .int .i64 q /\ Hid (q = (s.data.toList.take k).foldl step 0) /\ -9223372036854775808 <= q /\ q <= 9223372036854775807) (fun _ i => s.size - (intOf i).toNat)
 case atStart => exact ⟨0,0,Nat.zero_le _,rfl,rfl,lH rfl,by omega,by omega⟩
 case round =>
   obtain ⟨k,q,hk,rfl,rfl,HQ,hq1,hq2⟩:=hrel
   by_cases hlt:k < s.size
   · have hts:(s.data.toList.take (k + 1)).foldl step 0 = step q s[k]:=by rw [take_snoc s k hlt,fold_snoc,HQ.out]
     have hbd:=step_bounds q s[k] ⟨hq1,hq2⟩
     have hc:=s[k].toNat_lt
     have HS:=lH hts
     have HBD:=lH hbd
     clear hts hbd
     by_cases c1:48 <= s[k].toNat
     · by_cases c2:s[k].toNat <= 57
       · have hst:step q s[k] = wrap64 (10 * q - ((s[k].toNat:Int) - 48)):=by unfold step; rw [if_pos ⟨c1,c2⟩]
         have HST:=lH hst
         clear hst
         go_wp2_with fail
         go_round
         case rel => exact ⟨k + 1,step q s[k],by omega,by go_num,by rw [HST.out]; first | rfl | (rw [wrap_sub]),lH HS.out.symm,HBD.out.1,HBD.out.2⟩
         case measure => simp [intOf]; omega
       · have hst:step q s[k] = q:=by unfold step; rw [if_neg (fun h => c2 h.2)]
         have HST:=lH hst
         clear hst
         go_wp2_with fail
         go_round
         case rel => exact ⟨k + 1,q,by omega,by go_num,rfl,lH (by rw [HS.out,HST.out]),hq1,hq2⟩
         case measure => simp [intOf]; omega
     · have hst:step q s[k] = q:=by unfold step; rw [if_neg (fun h => c1 h.1)]
       have HST:=lH hst
       clear hst
       go_wp2_with fail
       go_round
       case rel => exact ⟨k + 1,q,by omega,by go_num,rfl,lH (by rw [HS.out,HST.out]),hq1,hq2⟩
       case measure => simp [intOf]; omega
   · have hqf:q = unF s.data.toList:=by rw [HQ.out,List.take_of_length_le (by simp; omega)]; rfl
     have HQF:=lH hqf
     clear hqf
     have h9:s.size = s.data.toList.length:=rfl
     by_cases hz:s.size = 0
     · obtain rfl:s = ⟨#[]⟩:=ba_ext (List.eq_nil_of_length_eq_zero (by omega))
       have hq0:q = 0:=by rw [HQF.out]; rfl
       have hv0:V0 = 0:=by rw [HV0.out]; rfl
       subst hq0
       subst hv0
       clear h9
       go_wp2_with fail
       refine (num_mak 0 (by omega)).calls H0.out ?_
       intro w1 hw
       have Hw:=lH hw
       clear hw
       have hE:bs (numS 0) ≠ ⟨#[]⟩:=by decide +kernel
       have hst:=some_bytes (bs (numS 0)) (by decide +kernel)
       have hB0:B = false:=by rw [HB.out]; exact decide_eq_false hE
       have hV0:V = 0:=by rw [HV.out,if_neg hE]
       subst hB0 hV0
       have HE:=lH hE
       clear hE
       go_wp2_with fail
       go_ret2
       exact ⟨rfl,Hw.out⟩
     · have hpos:0 < s.size:=by omega
       have hne:=some_bytes s hpos
       clear hz
       have hhead:s.data.toList.head? = some s[0]:=by
         rw [List.head?_eq_getElem?,List.getElem?_eq_getElem (show 0 < s.data.toList.length by omega)]; rfl
       have hnil:s.data.toList ≠ []:=fun h => by rw [h,List.length_nil] at h9; omega
       by_cases h45:s[0].toNat = 45
       · have hb:((s[0].toNat:Int) != 45) = false:=by rw [h45]; rfl
         have hv0:q = V0:=by
           rw [HV0.out,HQF.out]; unfold unV
           rw [if_neg (fun h => h.2 (by rw [hhead]; exact congrArg some (UInt8.toNat_inj.1 h45)))]
         have Hv0:=lH hv0
         clear hv0
         have H9:=lH h9
         clear h9
         have Hhead:=lH hhead
         clear hhead
         have Hnil:=lH hnil
         clear hnil
         have H45:=lH h45
         clear h45
         go_wp2_with fail
         rw [Hv0.out]
         refine (num_mak V0 (by omega)).calls H0.out ?_
         intro w1 hW
         have HW:=lH hW
         clear hW
         by_cases hE:bs (numS V0) = s
         · have hst:=str_eq_f hE
           have hB0:B = true:=by rw [HB.out]; exact decide_eq_true hE
           have hV0:V = V0:=by rw [HV.out,if_pos hE]
           subst hB0 hV0
           have HE:=lH hE
           clear hE
           go_wp2_with fail
           go_ret2
           exact ⟨rfl,HW.out⟩
         · have hst:=str_ne_t hE
           have hB0:B = false:=by rw [HB.out]; exact decide_eq_false hE
           have hV0:V = 0:=by rw [HV.out,if_neg hE]
           subst hB0 hV0
           have HE:=lH hE
           clear hE
           go_wp2_with fail
           go_ret2
           exact ⟨rfl,HW.out⟩
       · have hb:((s[0].toNat:Int) != 45) = true:=by rw [bne_iff_ne]; omega
         have hv0:wrap64 (-q) = V0:=by
           rw [HV0.out,HQF.out]; unfold unV
           rw [if_pos ⟨hnil,fun h => h45 (by rw [hhead] at h; rw [Option.some.inj h]; rfl)⟩]
         have H9:=lH h9
         clear h9
         have Hhead:=lH hhead
         clear hhead
         have Hnil:=lH hnil
         clear hnil
         have H45:=lH h45
         clear h45
         have Hv0:=lH hv0
         clear hv0
         go_wp2_with fail
         rw [Hv0.out]
         refine (num_mak V0 (by omega)).calls H0.out ?_
         intro w1 hW
         have HW:=lH hW
         clear hW
         by_cases hE:bs (numS V0) = s
         · have hst:=str_eq_f hE
           have hB0:B = true:=by rw [HB.out]; exact decide_eq_true hE
           have hV0:V = V0:=by rw [HV.out,if_pos hE]
           subst hB0 hV0
           have HE:=lH hE
           clear hE
           go_wp2_with fail
           go_ret2
           exact ⟨rfl,HW.out⟩
         · have hst:=str_ne_t hE
           have hB0:B = false:=by rw [HB.out]; exact decide_eq_false hE
           have hV0:V = 0:=by rw [HV.out,if_neg hE]
           subst hB0 hV0
           have HE:=lH hE
           clear hE
           go_wp2_with fail
           go_ret2
           exact ⟨rfl,HW.out⟩
end Dig
namespace RefDig
open Dig
theorem digs_spec (f:Nat):∀ M:Nat,1 <= f -> M < 10 ^ f -> 1 <= (digs f M).length /\ (digs f M).length <= f /\ M < 10 ^ (digs f M).length /\ ((digs f M).length = 1 ∨ 10 ^ ((digs f M).length - 1) <= M):=by
 induction f with
 | zero => intro M h; omega
 | succ f ih =>
   intro M _ h2
   unfold digs
   by_cases hM:M < 10
   · rw [if_pos hM]; simp; omega
   · rw [if_neg hM]
     have hf:1 <= f:=by
       apply Classical.byContradiction
       intro h
       have:f = 0:=by omega
       subst this
       simp at h2
       omega
     obtain ⟨a,b,c,d⟩:=ih (M / 10) hf (by rw [Nat.pow_succ] at h2; omega)
     rw [List.length_append]
     obtain ⟨L,hL⟩:∃ L,L = (digs f (M / 10)).length:=⟨_,rfl⟩
     rw [<- hL] at a b c d ⊢
     simp only [List.length_cons,List.length_nil,Nat.zero_add,Nat.add_sub_cancel]
     refine ⟨by omega,by omega,by rw [Nat.pow_succ]; omega,Or.inr ?_⟩
     rcases d with d | d
     · rw [d]; omega
     · obtain ⟨K,rfl⟩:∃ K,L = K + 1:=⟨L - 1,by omega⟩
       rw [Nat.add_sub_cancel] at d
       rw [Nat.pow_succ]
       omega
theorem digs_eq (M L:Nat) (h1:1 <= L) (h2:M < 10 ^ L) (h3:L = 1 ∨ 10 ^ (L - 1) <= M) (hM:M <= 9223372036854775808):digs 20 M = (List.range L).map fun i => UInt8.ofNat (dg M (L - 1 - i)).toNat :=
 digs_map 20 L M h1 (by
   rcases h3 with h3 | h3
   · omega
   · apply Classical.byContradiction
     intro hne
     have h5:10 ^ 20 <= 10 ^ (L - 1):=Nat.pow_le_pow_right (by decide) (by omega)
     have h6:(9223372036854775808:Nat) < 10 ^ 20:=by decide
     omega) h2 h3
theorem digs_fuel (f:Nat):∀ M:Nat,M < 10 ^ f -> 1 <= f -> digs f M = digs (f + 1) M:=by
 induction f with
 | zero => intro M _ h; omega
 | succ f ih =>
   intro M h2 _
   show (if M < 10 then [UInt8.ofNat (48 + M)] else digs f (M / 10) ++ [UInt8.ofNat (48 + M % 10)]) = (if M < 10 then [UInt8.ofNat (48 + M)] else digs (f + 1) (M / 10) ++ [UInt8.ofNat (48 + M % 10)])
   by_cases hM:M < 10
   · rw [if_pos hM,if_pos hM]
   · rw [if_neg hM,if_neg hM,ih (M / 10) (by rw [Nat.pow_succ] at h2; omega) (by
       apply Classical.byContradiction
       intro h
       have:f = 0:=by omega
       subst this
       simp at h2
       omega)]
theorem digs_ten (M:Nat) (h:10 <= M) (hM:M <= 9223372036854775808):digs 20 M = digs 20 (M / 10) ++ digs 20 (M % 10):=by
 have h1:digs 20 M = digs 19 (M / 10) ++ [UInt8.ofNat (48 + M % 10)]:=by
   show (if M < 10 then [UInt8.ofNat (48 + M)] else digs 19 (M / 10) ++ [UInt8.ofNat (48 + M % 10)]) = _
   rw [if_neg (by omega)]
 have h2:digs 20 (M % 10) = [UInt8.ofNat (48 + M % 10)]:=by
   show (if M % 10 < 10 then [UInt8.ofNat (48 + M % 10)] else _) = _
   rw [if_pos (by omega)]
 rw [h1,h2,digs_fuel 19 (M / 10) (Nat.lt_of_le_of_lt (show M / 10 <= 922337203685477580 by omega) (by decide)) (by decide)]
def lowD (M k:Nat):List UInt8:=(List.range k).map fun i => UInt8.ofNat (dg M (k - 1 - i)).toNat
theorem lowD_len (M k:Nat):(lowD M k).length = k:=by simp [lowD]
theorem lowD_succ (M k:Nat):lowD M (k + 1) = UInt8.ofNat (48 + M / 10 ^ k % 10) :: lowD M k:=by
 unfold lowD
 rw [List.range_succ_eq_map,List.map_cons,List.map_map]
 have h1:(dg M (k + 1 - 1 - 0)).toNat = 48 + M / 10 ^ k % 10:=by unfold dg; rw [show k + 1 - 1 - 0 = k from by omega]; omega
 rw [h1]
 congr 1
 apply List.map_congr_left
 intro i _
 show UInt8.ofNat (dg M (k + 1 - 1 - (i + 1))).toNat = _
 rw [show k + 1 - 1 - (i + 1) = k - 1 - i from by omega]
theorem sign_dec (d:Nat) (h:d < 10):sign d = UInt8.ofNat (48 + d):=by
 rcases (show d = 0 ∨ d = 1 ∨ d = 2 ∨ d = 3 ∨ d = 4 ∨ d = 5 ∨ d = 6 ∨ d = 7 ∨ d = 8 ∨ d = 9 by omega) with rfl | rfl | rfl | rfl | rfl | rfl | rfl | rfl | rfl | rfl <;> rfl
set_option maxHeartbeats 1000000 in
theorem plain_any (M:Nat) (hM:M <= 9223372036854775807) (X:ByteArray) (hX:X = bs (digs 20 M)):Mak 87 #[.int .i64 (M:Int)] (.string X):=by
 intro w
 have HX:=lH hX
 clear hX
 have H0:=lH (Since.refl w)
 go_enter Tryz.func87,Tryz.ntmps87
 go_wp2
 go_loopw [0,3] (fun v s wr => ∃ (k q:Nat) (S:ByteArray),v = .int .i64 (q:Int) /\ q <= 9223372036854775807 /\ k <= 20 /\ Hid (q = M / 10 ^ k) /\ (k = 0 -> q = M) /\ s = .string S /\ S.size <= k /\ k <= S.size /\ Hid (S = bs (lowD M k)) /\ Hid (k <= 1 ∨ 10 ^ (k - 1) <= M) /\ Hid (Since w wr)) (fun v s _ => match v,s with | .int _ q,.string S => q.toNat * 2 + (1 - S.size) | _,_ => 0)
 case atStart => exact ⟨0,M,⟨#[]⟩,rfl,hM,by omega,lH (by simp),fun _ => rfl,rfl,Nat.le_refl _,Nat.le_refl _,lH rfl,lH (Or.inl (by omega)),H0⟩
 case round =>
   obtain ⟨k,q,S,rfl,hq,hk,HQ,hq0,rfl,hs1,hs2,HS,HK,HW⟩:=hrel
   by_cases hgo:0 < q ∨ k = 0
   · have hk19:k <= 19:=by
       rcases hgo with h | h
       · apply Classical.byContradiction
         intro h7
         have h6:M / 10 ^ k = 0:=Nat.div_eq_of_lt (Nat.lt_of_le_of_lt hM (Nat.lt_of_lt_of_le (show (9223372036854775807:Nat) < 10 ^ 19 by decide) (Nat.pow_le_pow_right (by decide) (by omega))))
         have h5:=HQ.out
         omega
       · omega
     have hkk:k + 1 <= 1 ∨ 10 ^ (k + 1 - 1) <= M:=by
       rcases hgo with h | h
       · right
         apply Classical.byContradiction
         intro h7
         have h6:M / 10 ^ k = 0:=Nat.div_eq_of_lt (by simpa using h7)
         have h5:=HQ.out
         omega
       · left; omega
     have hnext:q / 10 = M / 10 ^ (k + 1):=by rw [HQ.out,Nat.div_div_eq_div_mul,Nat.pow_succ]
     obtain ⟨d,hd⟩:∃ d,q % 10 = d:=⟨_,rfl⟩
     have hd2:d < 10:=by omega
     have qd:(q:Int) % 10 = (d:Int):=by omega
     have hcut:=sign_cut d (by omega)
     have hlow:bs [sign d] ++ S = bs (lowD M (k + 1)):=by
       apply ba_ext
       rw [app_list,list_bs,HS.out,list_bs,list_bs,lowD_succ,<- HQ.out,hd,sign_dec d hd2]; rfl
     have hsz:¬ 9223372036854775807 < (bs [sign d]).size + S.size:=by rw [size_bs]; simp; omega
     have hlen:(bs [sign d] ++ S).size = S.size + 1:=by
       rw [hlow,HS.out,size_bs,size_bs,lowD_len,lowD_len]
     have e1:IntKind.i64.wrap ((d:Int) + 1) = (d:Int) + 1:=IntWalk.i64_in _ (by omega)
     have n1:((d:Int) + 1).toNat = d + 1:=by omega
     have Hkk:=lH hkk
     clear hkk
     have Hnext:=lH hnext
     clear hnext
     have Hlow:=lH hlow
     clear hlow
     have Hlen:=lH hlen
     clear hlen
     clear hd
     by_cases h0:0 < q
     · clear hgo hq0
       go_wp2_with fail
       try go_quiet (fail)
       go_wp2_with fail
       go_roundw
       case rel => exact ⟨k + 1,q / 10,_,by go_num,by omega,by omega,Hnext,fun h => by omega,rfl,by rw [Hlen.out]; omega,by rw [Hlen.out]; omega,Hlow,Hkk,HW⟩
       case measure => simp; have:=Hlen.out; omega
     · have hq00:q = 0:=by omega
       have hk0:k = 0:=by omega
       subst hq00
       subst hk0
       obtain rfl:S = ⟨#[]⟩:=ba_ext (List.eq_nil_of_length_eq_zero (by have h8:S.size = S.data.toList.length:=rfl; omega))
       have hM0:M = 0:=(hq0 rfl).symm
       subst hM0
       clear hgo hq0
       go_wp2_with fail
       try go_quiet (fail)
       go_wp2_with fail
       go_roundw
       case rel => exact ⟨1,0,_,rfl,by omega,by omega,lH rfl,fun h => by omega,rfl,by decide,by decide,lH (by decide),lH (Or.inl (by omega)),HW⟩
       case measure => decide
   · have hq00:q = 0:=by omega
     have hk1:1 <= k:=by omega
     subst hq00
     have hlt2:M < 10 ^ k:=by
       have h9:=HQ.out
       exact (Nat.div_eq_zero_iff.1 h9.symm).resolve_left (Nat.ne_of_gt (Nat.pow_pos (by decide)))
     have hX2:X = S:=by
       rw [HX.out,HS.out,digs_eq M k hk1 hlt2 (by rcases HK.out with h | h <;> omega) (by omega)]; rfl
     subst hX2
     have hne:=some_bytes X (by omega)
     have hne2:=some_bytes_f X (by omega)
     clear hgo hq0 hlt2
     go_wp2_with fail
     go_ret
     exact ⟨rfl,HW.out⟩
set_option maxHeartbeats 1000000 in
theorem num_any (n:Int) (h:-9223372036854775808 <= n /\ n <= 9223372036854775807) (X:ByteArray) (hX:X = bs (numS n)):Mak 75 #[.int .i64 n] (.string X):=by
 obtain ⟨h1,h2⟩:=h
 by_cases hn:0 <= n
 · obtain ⟨M,rfl⟩:=Int.eq_ofNat_of_zero_le hn
   have hp:=plain_any M (by omega) X (by rw [hX]; unfold numS; rw [if_neg (by omega)]; rfl)
   intro w
   have H0:=lH (Since.refl w)
   clear hX
   go_enter Tryz.func75,Tryz.ntmps75
   go_wp2_with fail
   refine (hp).calls H0.out ?_
   intro w1 h1
   have H1:=lH h1
   clear h1
   go_wp2_with fail
   go_ret
   exact ⟨rfl,H1.out⟩
 · obtain ⟨M,hM⟩:∃ M:Nat,n = -(M:Int):=⟨n.natAbs,by omega⟩
   have hM1:1 <= M:=by omega
   have hM2:M <= 9223372036854775808:=by omega
   have hnat:n.natAbs = M:=by omega
   have hXX:X = bs (45 :: digs 20 M):=by rw [hX]; unfold numS; rw [if_pos (by omega),hnat]
   have hlast:=plain_any (M % 10) (by omega) _ rfl
   have hrest:=plain_any (M / 10) (by omega) _ rfl
   have e1:n.tmod 10 = -((M % 10:Nat):Int):=neg_mod n M hM
   have e2:n.tdiv 10 = -((M / 10:Nat):Int):=neg_div n M hM
   have hdg:¬ M < 10 -> digs 20 M = digs 20 (M / 10) ++ digs 20 (M % 10):=fun h => digs_ten M (by omega) hM2
   have hlt:M < 10 -> digs 20 (M % 10) = digs 20 M:=fun h => by rw [Nat.mod_eq_of_lt h]
   have hdv:M < 10 -> M / 10 = 0:=fun h => by omega
   have hdv2:¬ M < 10 -> 1 <= M / 10:=fun h => by omega
   have l1:(digs 20 (M / 10)).length <= 20:=(digs_spec 20 (M / 10) (by decide) (Nat.lt_of_le_of_lt (show M / 10 <= 922337203685477580 by omega) (by decide))).2.1
   have l2:(digs 20 (M % 10)).length <= 20:=(digs_spec 20 (M % 10) (by decide) (Nat.lt_of_le_of_lt (show M % 10 <= 9 by omega) (by decide))).2.1
   have b1:M % 10 <= 9:=by omega
   have b2:M / 10 <= 922337203685477580:=by omega
   generalize M % 10 = a at *
   generalize M / 10 = b at *
   intro w
   have H0:=lH (Since.refl w)
   have HM:=lH hM
   clear hM
   have Hnat:=lH hnat
   clear hnat
   have Hdg:=lH hdg
   clear hdg
   have Hlt:=lH hlt
   clear hlt
   have HX:=lH hX
   clear hX
   have HXX:=lH hXX
   clear hXX
   by_cases h10:M < 10
   · have hb0:b = 0:=hdv h10
     subst hb0
     have e3:n.tdiv 10 = 0:=by rw [e2]; rfl
     clear e2 hdv hdv2
     have hsz:¬ 9223372036854775807 < (⟨#[45]⟩:ByteArray).size + (bs (digs 20 a)).size:=by
       have h9:(⟨#[45]⟩:ByteArray).size = 1:=rfl
       rw [h9,size_bs]; omega
     go_enter Tryz.func75,Tryz.ntmps75
     go_wp2_with fail
     refine (hlast).calls H0.out ?_
     intro w1 h1
     have H1:=lH h1
     clear h1
     go_wp2_with fail
     go_ret
     refine ⟨?_,H1.out⟩
     rw [HXX.out,<- Hlt.out h10]
     rfl
   · have hb0:=hdv2 h10
     have e4:((b:Int) == 0) = false:=by rw [beq_eq_false_iff_ne]; omega
     have hsz:¬ 9223372036854775807 < (⟨#[45]⟩:ByteArray).size + (bs (digs 20 b)).size:=by
       have h9:(⟨#[45]⟩:ByteArray).size = 1:=rfl
       rw [h9,size_bs]; omega
     have hsz2:¬ 9223372036854775807 < (⟨#[45]⟩ ++ bs (digs 20 b)).size + (bs (digs 20 a)).size:=by
       have h9:(⟨#[45]⟩ ++ bs (digs 20 b)).size = (⟨#[45]⟩ ++ bs (digs 20 b)).data.toList.length:=rfl
       rw [h9,app_list,List.length_append,list_bs,size_bs]
       have h8:(⟨#[45]⟩:ByteArray).data.toList.length = 1:=rfl
       omega
     clear hdv hdv2
     go_enter Tryz.func75,Tryz.ntmps75
     go_wp2_with fail
     refine (hrest).calls H0.out ?_
     intro w1 h1
     have H1:=lH h1
     clear h1
     go_wp2_with fail
     refine (hlast).calls H1.out ?_
     intro w2 h2
     have H2:=lH h2
     clear h2
     go_wp2_with fail
     go_ret
     refine ⟨?_,H2.out⟩
     rw [HXX.out,Hdg.out h10]
     exact congrArg (fun x => Ending.returned (.string x)) (ba_ext (by rw [app_list,app_list,list_bs,list_bs,list_bs]; rfl))
theorem numD_digs (f:Nat):∀ M:Nat,M < 10 ^ f -> numD (digs f M) = M /\ (digs f M).all isD = true:=by
 induction f with
 | zero => intro M h; simp at h; subst h; exact ⟨rfl,rfl⟩
 | succ f ih =>
   intro M h
   unfold digs
   have hb:∀ d:Nat,d < 10 -> (UInt8.ofNat (48 + d)).toNat = 48 + d:=fun d hd => by rw [UInt8.toNat_ofNat']; omega
   have hi:∀ d:Nat,d < 10 -> isD (UInt8.ofNat (48 + d)) = true:=fun d hd => by unfold isD; rw [hb d hd]; simp; omega
   by_cases hM:M < 10
   · rw [if_pos hM]
     refine ⟨?_,by rw [List.all_cons,hi M hM]; rfl⟩
     show 10 * 0 + ((UInt8.ofNat (48 + M)).toNat - 48) = M
     rw [hb M hM]; omega
   · rw [if_neg hM]
     obtain ⟨h1,h2⟩:=ih (M / 10) (by rw [Nat.pow_succ] at h; omega)
     refine ⟨?_,by rw [List.all_append,h2,List.all_cons,hi (M % 10) (by omega)]; rfl⟩
     rw [numD_snoc,h1,hb (M % 10) (by omega)]; omega
theorem fold_ge (m:List UInt8):∀ n:Nat,n <= m.foldl (fun n c => 10 * n + (c.toNat - 48)) n:=by
 induction m with
 | nil => intro n; exact Nat.le_refl _
 | cons c m ih => intro n; exact Nat.le_trans (by omega) (ih (10 * n + (c.toNat - 48)))
theorem numD_app (l m:List UInt8):numD l <= numD (l ++ m):=by
 unfold numD
 rw [List.foldl_append]
 exact fold_ge m _
theorem numD_take (l:List UInt8) (k:Nat):numD (l.take k) <= numD l:=by
 have h:=numD_app (l.take k) (l.drop k)
 rwa [List.take_append_drop] at h
theorem pos_true (l:List UInt8) (hh:l.head? ≠ some 45) (h:numS (unV l) = l):l.all isD = true /\ (numD l:Int) = unV l:=by
 have hb:=unV_bounds l
 have hlt:(unV l).natAbs < 10 ^ 20:=Nat.lt_of_le_of_lt (show (unV l).natAbs <= 9223372036854775808 by omega) (by decide)
 obtain ⟨h1,h2⟩:=numD_digs 20 _ hlt
 by_cases hn:unV l < 0
 · exfalso
   unfold numS at h
   rw [if_pos hn] at h
   exact hh (by rw [<- h]; rfl)
 · unfold numS at h
   rw [if_neg hn] at h
   rw [h] at h1 h2
   exact ⟨h2,by rw [h1]; omega⟩
theorem neg_true (l m:List UInt8) (hl:l = 45 :: m) (h:numS (unV l) = l):m.all isD = true /\ -(numD m:Int) = unV l:=by
 have hb:=unV_bounds l
 have hlt:(unV l).natAbs < 10 ^ 20:=Nat.lt_of_le_of_lt (show (unV l).natAbs <= 9223372036854775808 by omega) (by decide)
 obtain ⟨h1,h2⟩:=numD_digs 20 _ hlt
 by_cases hn:unV l < 0
 · unfold numS at h
   rw [if_pos hn] at h
   have h3:digs 20 (unV l).natAbs = m:=by rw [hl] at h ⊢; exact List.tail_eq_of_cons_eq h
   rw [h3] at h1 h2
   exact ⟨h2,by rw [h1]; omega⟩
 · exfalso
   unfold numS at h
   rw [if_neg hn] at h
   have h4:=(digs_head 20 (unV l).natAbs (by decide)).2
   rw [h,hl] at h4
   exact h4 rfl
end RefDig
namespace RefDig
open Dig
theorem val_dig (c:Nat) (h:48 <= c /\ c <= 57):val c = (c:Int) - 48:=by unfold val; rw [if_pos h]
theorem val_not (c:Nat) (h:¬ (48 <= c /\ c <= 57)):val c < 0 ∨ 9 < val c:=by unfold val; rw [if_neg h]; split <;> omega
set_option maxHeartbeats 400000 in
theorem unnum_out (s:ByteArray) (h:s.size < 1 ∨ 20 < s.size) (hm:s.size <= 140737488355328):Ret 51 #[.string s] (.tuple #[.int .i64 0,.bool false]):=by
 intro w
 rcases h with h | h
 · go_enter Tryz.func51,Tryz.ntmps51
   go_wp2
   go_ret2
   exact ⟨rfl,rfl⟩
 · have h':¬ s.size < 1:=by omega
   go_enter Tryz.func51,Tryz.ntmps51
   go_wp2
   go_ret2
   exact ⟨rfl,rfl⟩
set_option maxHeartbeats 2000000 in
theorem unnum_pos (s:ByteArray) (h1:1 <= s.size) (hs:s.size <= 20) (h45:s[0].toNat ≠ 45) (V0 V:Int) (B:Bool) (h0:V0 = unV s.data.toList) (hB:B = decide (bs (numS V0) = s)) (hV:V = if B = true then V0 else 0) :
   Mak 51 #[.string s] (.tuple #[.int .i64 V,.bool B]):=by
 intro w
 have hbd:=unV_bounds s.data.toList
 rw [<- h0] at hbd
 have h9:s.size = s.data.toList.length:=rfl
 have hhead:s.data.toList.head? ≠ some 45:=by
   rw [List.head?_eq_getElem?,List.getElem?_eq_getElem (show 0 < s.data.toList.length by omega)]
   intro h
   have h2:s[0] = 45:=Option.some.inj h
   exact h45 (by rw [h2]; rfl)
 have hp:B = true -> s.data.toList.all isD = true /\ (numD s.data.toList:Int) = V0:=fun h => by
   rw [h] at hB
   have h2:=of_decide_eq_true hB.symm
   rw [h0] at h2
   have h3:=pos_true s.data.toList hhead (by rw [<- list_bs (numS _),h2])
   rwa [<- h0] at h3
 have hb45:((s[0].toNat:Int) == 45) = false:=by rw [beq_eq_false_iff_ne]; omega
 have HP:=lH hp
 have HV0:=lH h0
 have HBD:=lH hbd
 have H0:=lH (Since.refl w)
 have HB:=lH hB
 clear hB
 have HV:=lH hV
 clear hV
 clear hp h0 hbd hhead h9 h45
 go_enter Tryz.func51,Tryz.ntmps51
 go_wp2
 go_loop [6,7] (fun n i => ∃ k q:Nat,k <= s.size /\ i = .int .i64 k /\ n = .int .i64 (q:Int) /\ q <= 9223372036854775807 /\ Hid ((s.data.toList.take k).all isD = true) /\ Hid (q = numD (s.data.toList.take k))) (fun _ i => s.size - (intOf i).toNat)
 case atStart => exact ⟨0,0,Nat.zero_le _,rfl,rfl,by omega,lH rfl,lH rfl⟩
 case round =>
   obtain ⟨k,q,hk,rfl,rfl,hq,HA,HQ⟩:=hrel
   by_cases hlt:k < s.size
   · have hts:numD (s.data.toList.take (k + 1)) = 10 * q + (s[k].toNat - 48):=by rw [take_snoc s k hlt,numD_snoc,HQ.out]
     have has:(s.data.toList.take (k + 1)).all isD = isD s[k]:=by
       rw [take_snoc s k hlt,List.all_append,HA.out]; simp
     have hc:=s[k].toNat_lt
     have hle:=numD_take s.data.toList (k + 1)
     have hcall:=fun W => qval s[k].toNat hc _ rfl W
     by_cases c1:48 <= s[k].toNat /\ s[k].toNat <= 57
     · have hd:isD s[k] = true:=by unfold isD; simp [c1.1,c1.2]
       have hv:=val_dig s[k].toNat c1
       obtain ⟨D,hD⟩:∃ D:Nat,D = s[k].toNat - 48:=⟨_,rfl⟩
       have hDv:(s[k].toNat:Int) - 48 = (D:Int):=by omega
       have hD9:D <= 9:=by omega
       rw [hv,hDv] at hcall
       rw [<- hD] at hts
       obtain ⟨c1,c2⟩:=c1
       by_cases hov:10 * q + D <= 9223372036854775807
       · have hno:¬ (9223372036854775807 - (D:Int)) / 10 < (q:Int):=by omega
         have Hd:=lH hd
         clear hd
         have Hv:=lH hv
         clear hv
         have Hcall:=lH hcall
         clear hcall
         have Hts:=lH hts
         clear hts
         have Has:=lH has
         clear has
         have Hle:=lH hle
         clear hle
         have HD:=lH hD
         clear hD
         have HDv:=lH hDv
         clear hDv
         clear c1 c2
         go_wp2_with fail
         refine (Hcall.out _).mono ?_
         rintro e w1 ⟨rfl,rfl⟩
         go_wp2_with fail
         go_round
         case rel => exact ⟨k + 1,10 * q + D,by omega,by go_num,by go_num,by omega,lH (by rw [Has.out,Hd.out]),lH Hts.out.symm⟩
         case measure => simp [intOf]; omega
       · have hyes:(9223372036854775807 - (D:Int)) / 10 < (q:Int):=by omega
         have hB0:B = false:=by
           cases hBB:B with
           | false => rfl
           | true =>
             exfalso
             have h2:=(HP.out hBB).2
             have h3:=HBD.out.2
             omega
         have hV0:V = 0:=by rw [HV.out,hB0]; rfl
         subst hB0 hV0
         have Hd:=lH hd
         clear hd
         have Hv:=lH hv
         clear hv
         have Hcall:=lH hcall
         clear hcall
         have Hts:=lH hts
         clear hts
         have Has:=lH has
         clear has
         have Hle:=lH hle
         clear hle
         have HD:=lH hD
         clear hD
         have HDv:=lH hDv
         clear hDv
         clear c1 c2 hov
         go_wp2_with fail
         refine (Hcall.out _).mono ?_
         rintro e w1 ⟨rfl,rfl⟩
         go_wp2_with fail
         go_ret2
         exact ⟨rfl,H0.out⟩
     · have hd:isD s[k] = false:=by unfold isD; simp; omega
       have hv:=val_not s[k].toNat c1
       have hB0:B = false:=by
         cases hBB:B with
         | false => rfl
         | true =>
           exfalso
           have h2:=all_take _ (k + 1) (HP.out hBB).1
           rw [has,hd] at h2
           cases h2
       have hV0:V = 0:=by rw [HV.out,hB0]; rfl
       subst hB0 hV0
       obtain ⟨v,hvv⟩:∃ v,v = val s[k].toNat:=⟨_,rfl⟩
       rw [<- hvv] at hv hcall
       have Hvv:=lH hvv
       clear hvv
       have Hcall:=lH hcall
       clear hcall
       have Hts:=lH hts
       clear hts
       have Has:=lH has
       clear has
       have Hd:=lH hd
       clear hd
       have Hle:=lH hle
       clear hle
       clear c1
       rcases hv with hv | hv
       · go_wp2_with fail
         refine (Hcall.out _).mono ?_
         rintro e w1 ⟨rfl,rfl⟩
         go_wp2_with fail
         go_ret2
         exact ⟨rfl,H0.out⟩
       · have hv0:¬ v < 0:=by omega
         go_wp2_with fail
         refine (Hcall.out _).mono ?_
         rintro e w1 ⟨rfl,rfl⟩
         go_wp2_with fail
         go_ret2
         exact ⟨rfl,H0.out⟩
   · have hqf:(q:Int) = (numD s.data.toList:Nat):=by rw [HQ.out,List.take_of_length_le (by simp; omega)]
     have HQF:=lH hqf
     clear hqf
     go_wp2_with fail
     refine (num_any (q:Int) (by omega) _ rfl).calls H0.out ?_
     intro w1 hW
     have HW:=lH hW
     clear hW
     by_cases hE:bs (numS (q:Int)) = s
     · have hl:numS (q:Int) = s.data.toList:=by rw [<- hE]; rfl
       have hq2:V0 = (q:Int):=by rw [HV0.out,<- hl]; exact unV_numS _ (by omega)
       have hB0:B = true:=by rw [HB.out,hq2]; exact decide_eq_true hE
       have hV0:V = (q:Int):=by rw [HV.out,hB0,hq2]; rfl
       have hst:=str_eq_f hE
       subst hB0 hV0
       have HE:=lH hE
       clear hE
       have Hl:=lH hl
       clear hl
       have Hq2:=lH hq2
       clear hq2
       go_wp2_with fail
       go_ret2
       exact ⟨rfl,HW.out⟩
     · have hB0:B = false:=by
         cases hBB:B with
         | false => rfl
         | true =>
           exfalso
           have h2:=HP.out hBB
           have h3:=HB.out
           rw [hBB] at h3
           have h4:=of_decide_eq_true h3.symm
           exact hE (by rw [<- h4,<- h2.2,<- HQF.out])
       have hst:=str_ne_t hE
       have hV0:V = 0:=by rw [HV.out,hB0]; rfl
       subst hB0 hV0
       have HE:=lH hE
       clear hE
       go_wp2_with fail
       go_ret2
       exact ⟨rfl,HW.out⟩
set_option maxHeartbeats 2000000 in
theorem unnum_neg (s:ByteArray) (h1:1 <= s.size) (hs:s.size <= 20) (h45:s[0].toNat = 45) (V0 V:Int) (B:Bool) (h0:V0 = unV s.data.toList) (hB:B = decide (bs (numS V0) = s)) (hV:V = if B = true then V0 else 0) :
   Mak 51 #[.string s] (.tuple #[.int .i64 V,.bool B]):=by
 intro w
 have hbd:=unV_bounds s.data.toList
 rw [<- h0] at hbd
 have h9:s.size = s.data.toList.length:=rfl
 obtain ⟨m,hm⟩:∃ m,s.data.toList = 45 :: m:=by
   have h2:s[0] = 45:=UInt8.toNat_inj.1 h45
   cases hl:s.data.toList with
   | nil => rw [hl,List.length_nil] at h9; omega
   | cons x m =>
     have h3:s[0] = s.data.toList[0]:=rfl
     simp only [hl] at h3
     exact ⟨m,by rw [<- h2,h3]; rfl⟩
 have hmk:∀ k,(hk:k + 1 < s.size) -> m.take (k + 1) = m.take k ++ [s[k + 1]]:=fun k hk => by
   have h3:s[k + 1] = s.data.toList[k + 1]:=rfl
   have h4:k < m.length:=by rw [h9,hm,List.length_cons] at hk; omega
   rw [List.take_succ_eq_append_getElem h4,h3]
   simp only [hm]
   rfl
 have hml:s.size = m.length + 1:=by rw [h9,hm,List.length_cons]
 have hp:B = true -> m.all isD = true /\ -(numD m:Int) = V0:=fun h => by
   rw [h] at hB
   have h2:=of_decide_eq_true hB.symm
   rw [h0] at h2
   have h3:=neg_true s.data.toList m hm (by rw [<- list_bs (numS _),h2])
   rwa [<- h0] at h3
 have hb45:((s[0].toNat:Int) == 45) = true:=by rw [h45]; rfl
 have HP:=lH hp
 have HV0:=lH h0
 have HBD:=lH hbd
 have H0:=lH (Since.refl w)
 have HB:=lH hB
 clear hB
 have HV:=lH hV
 clear hV
 have Hmk:=lH hmk
 clear hmk
 have Hm:=lH hm
 clear hm
 have Hml:=lH hml
 clear hml
 clear hp h0 hbd h9 h45
 go_enter Tryz.func51,Tryz.ntmps51
 go_wp2
 go_loop [6,7] (fun n i => ∃ k q:Nat,k + 1 <= s.size /\ i = .int .i64 ((k:Int) + 1) /\ n = .int .i64 (-(q:Int)) /\ q <= 9223372036854775808 /\ Hid ((m.take k).all isD = true) /\ Hid (q = numD (m.take k))) (fun _ i => s.size - (intOf i).toNat)
 case atStart => exact ⟨0,0,h1,rfl,rfl,by omega,lH rfl,lH rfl⟩
 case round =>
   obtain ⟨k,q,hk,rfl,rfl,hq,HA,HQ⟩:=hrel
   by_cases hlt:k + 1 < s.size
   · have hts:numD (m.take (k + 1)) = 10 * q + (s[k + 1].toNat - 48):=by rw [Hmk.out k hlt,numD_snoc,HQ.out]
     have has:(m.take (k + 1)).all isD = isD s[k + 1]:=by
       rw [Hmk.out k hlt,List.all_append,HA.out]; simp
     have hc:=s[k + 1].toNat_lt
     have hle:=numD_take m (k + 1)
     have hcall:=fun W => qval s[k + 1].toNat hc _ rfl W
     by_cases c1:48 <= s[k + 1].toNat /\ s[k + 1].toNat <= 57
     · have hd:isD s[k + 1] = true:=by unfold isD; simp [c1.1,c1.2]
       have hv:=val_dig s[k + 1].toNat c1
       obtain ⟨D,hD⟩:∃ D:Nat,D = s[k + 1].toNat - 48:=⟨_,rfl⟩
       have hDv:(s[k + 1].toNat:Int) - 48 = (D:Int):=by omega
       have hD9:D <= 9:=by omega
       rw [hv,hDv] at hcall
       rw [<- hD] at hts
       obtain ⟨c1,c2⟩:=c1
       obtain ⟨T,hT⟩:∃ T:Nat,T = (9223372036854775808 - D) / 10:=⟨_,rfl⟩
       have e1:(-9223372036854775808 + (D:Int)).tdiv 10 = -(T:Int):=by
         rw [show (-9223372036854775808 + (D:Int)) = -((9223372036854775808 - D:Nat):Int) from by omega,Int.neg_tdiv,Int.tdiv_eq_ediv_of_nonneg (by omega),hT]
         omega
       by_cases hov:10 * q + D <= 9223372036854775808
       · have hno:q <= T:=by omega
         have hT2:T <= 922337203685477580:=by omega
         have Hd:=lH hd
         clear hd
         have Hv:=lH hv
         clear hv
         have Hcall:=lH hcall
         clear hcall
         have Hts:=lH hts
         clear hts
         have Has:=lH has
         clear has
         have Hle:=lH hle
         clear hle
         have HD:=lH hD
         clear hD
         have HDv:=lH hDv
         clear hDv
         have HT:=lH hT
         clear hT
         clear c1 c2
         go_wp2_with fail
         refine (Hcall.out _).mono ?_
         rintro e w1 ⟨rfl,rfl⟩
         go_wp2_with fail
         go_round
         case rel => exact ⟨k + 1,10 * q + D,by omega,by go_num,by first | go_num | (congr 1; omega),by omega,lH (by rw [Has.out,Hd.out]),lH Hts.out.symm⟩
         case measure => simp [intOf]; omega
       · have hyes:T < q:=by omega
         have hB0:B = false:=by
           cases hBB:B with
           | false => rfl
           | true =>
             exfalso
             have h2:=(HP.out hBB).2
             have h3:=HBD.out.1
             omega
         have hV0:V = 0:=by rw [HV.out,hB0]; rfl
         subst hB0 hV0
         have Hd:=lH hd
         clear hd
         have Hv:=lH hv
         clear hv
         have Hcall:=lH hcall
         clear hcall
         have Hts:=lH hts
         clear hts
         have Has:=lH has
         clear has
         have Hle:=lH hle
         clear hle
         have HD:=lH hD
         clear hD
         have HDv:=lH hDv
         clear hDv
         have HT:=lH hT
         clear hT
         clear c1 c2 hov
         go_wp2_with fail
         refine (Hcall.out _).mono ?_
         rintro e w1 ⟨rfl,rfl⟩
         go_wp2_with fail
         go_ret2
         exact ⟨rfl,H0.out⟩
     · have hd:isD s[k + 1] = false:=by unfold isD; simp; omega
       have hv:=val_not s[k + 1].toNat c1
       have hB0:B = false:=by
         cases hBB:B with
         | false => rfl
         | true =>
           exfalso
           have h2:=all_take _ (k + 1) (HP.out hBB).1
           rw [has,hd] at h2
           cases h2
       have hV0:V = 0:=by rw [HV.out,hB0]; rfl
       subst hB0 hV0
       obtain ⟨v,hvv⟩:∃ v,v = val s[k + 1].toNat:=⟨_,rfl⟩
       rw [<- hvv] at hv hcall
       have Hvv:=lH hvv
       clear hvv
       have Hcall:=lH hcall
       clear hcall
       have Hts:=lH hts
       clear hts
       have Has:=lH has
       clear has
       have Hd:=lH hd
       clear hd
       have Hle:=lH hle
       clear hle
       clear c1
       rcases hv with hv | hv
       · go_wp2_with fail
         refine (Hcall.out _).mono ?_
         rintro e w1 ⟨rfl,rfl⟩
         go_wp2_with fail
         go_ret2
         exact ⟨rfl,H0.out⟩
       · have hv0:¬ v < 0:=by omega
         go_wp2_with fail
         refine (Hcall.out _).mono ?_
         rintro e w1 ⟨rfl,rfl⟩
         go_wp2_with fail
         go_ret2
         exact ⟨rfl,H0.out⟩
   · have hqf:-(q:Int) = -(numD m:Nat):=by rw [HQ.out,List.take_of_length_le (by have:=Hml.out; omega)]
     have HQF:=lH hqf
     clear hqf
     go_wp2_with fail
     refine (num_any (-(q:Int)) (by omega) _ rfl).calls H0.out ?_
     intro w1 hW
     have HW:=lH hW
     clear hW
     by_cases hE:bs (numS (-(q:Int))) = s
     · have hl:numS (-(q:Int)) = s.data.toList:=by rw [<- hE]; rfl
       have hq2:V0 = (-(q:Int)):=by rw [HV0.out,<- hl]; exact unV_numS _ (by omega)
       have hB0:B = true:=by rw [HB.out,hq2]; exact decide_eq_true hE
       have hV0:V = (-(q:Int)):=by rw [HV.out,hB0,hq2]; rfl
       have hst:=str_eq_f hE
       subst hB0 hV0
       have HE:=lH hE
       clear hE
       have Hl:=lH hl
       clear hl
       have Hq2:=lH hq2
       clear hq2
       go_wp2_with fail
       go_ret2
       exact ⟨rfl,HW.out⟩
     · have hB0:B = false:=by
         cases hBB:B with
         | false => rfl
         | true =>
           exfalso
           have h2:=HP.out hBB
           have h3:=HB.out
           rw [hBB] at h3
           have h4:=of_decide_eq_true h3.symm
           exact hE (by rw [<- h4,<- h2.2,<- HQF.out])
       have hst:=str_ne_t hE
       have hV0:V = 0:=by rw [HV.out,hB0]; rfl
       subst hB0 hV0
       have HE:=lH hE
       clear hE
       go_wp2_with fail
       go_ret2
       exact ⟨rfl,HW.out⟩
end RefDig
namespace RefHead
open Head
end RefHead
end Go.Proofs.YtcdjfmlanicjlaaGreatDoor
