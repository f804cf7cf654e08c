import Derived.Test.YtpanhhjkecebkaaGreatDoorSt20
import Derived.Test.YtpanhhjkecebkaaGreatDoorSt8
import Derived.Test.YtpanhhjkecebkaaGreatDoorSt12
set_option maxRecDepth 100000
namespace Go.Proofs.YtpanhhjkecebkaaGreatDoor
open Go.RowKit
namespace Dig
set_option maxHeartbeats 400000 in
theorem value_any (c:Nat) (w:World) (hc:c < 256) :
   Calls Tryz.prog 125 #[.int .u8 (c:Int)] w fun e w' => e = .returned (.int .i64 (val c)) /\ w = w':=by
 by_cases h1:48 <= c
 · by_cases h2:c <= 57
   · have hv:val c = (c:Int) - 48:=by unfold val; rw [if_pos ⟨h1,h2⟩]
     go_enter Tryz.func125,Tryz.ntmps125
     go_wp2
     go_ret
     exact ⟨by rw [hv]; simp,rfl⟩
   · by_cases h3:65 <= c
     · by_cases h4:c <= 70
       · have hv:val c = (c:Int) - 55:=by unfold val; rw [if_neg (by omega),if_pos ⟨h3,h4⟩]
         have HV:=lH hv
         clear hv
         go_enter Tryz.func125,Tryz.ntmps125
         go_wp2
         go_ret
         refine ⟨?_,rfl⟩
         rw [HV.out]; simp; omega
       · have hv:val c = -1:=by unfold val; rw [if_neg (by omega),if_neg (by omega)]
         rw [hv]
         clear hv
         go_enter Tryz.func125,Tryz.ntmps125
         go_wp2
         go_ret
         exact ⟨by first | rfl | rw [hv],rfl⟩
     · have hv:val c = -1:=by unfold val; rw [if_neg (by omega),if_neg (by omega)]
       go_enter Tryz.func125,Tryz.ntmps125
       go_wp2
       go_ret
       exact ⟨by first | rfl | rw [hv],rfl⟩
 · have hv:val c = -1:=by unfold val; rw [if_neg (by omega),if_neg (by omega)]
   go_enter Tryz.func125,Tryz.ntmps125
   go_wp2
   go_ret
   exact ⟨by first | rfl | rw [hv],rfl⟩
theorem qval (c:Nat) (hc:c < 256) (h:Int) (hh:val c = h) (W:World):Calls Tryz.prog 125 #[.int .u8 (c:Int)] W fun e w' => e = .returned (.int .i64 h) /\ w' = W:=by
 subst hh; exact (value_any c W hc).mono fun _ _ ⟨he,hw⟩ => ⟨he,hw.symm⟩
set_option maxHeartbeats 1000000 in
theorem unhex_even (s:ByteArray) (m:Nat) (w:World) (hm:s.size <= 140737488355328) (h:s.size = 2 * m) (X:ByteArray) (B:Bool) (hB:B = okN s.data.toList m) (hX:X = if okN s.data.toList m = true then strOfNums ((List.range m).map (pairV s.data.toList)) else ⟨#[]⟩) :
   Calls Tryz.prog 103 #[.string s] w fun e w' => e = .returned (.tuple #[.string X,.bool B]) /\ Since w w':=by
 have HBB:=lH hB
 have HXX:=lH hX
 clear hB hX
 have hmk:∀ w:World,(Instr.makeSlice 61 (.int .i64 (m:Int)) (.int .i64 (m:Int))).run Tryz.prog w = .ok (.slice (some ⟨w.heap.size,0,none⟩) m m) (w.alloc (.cells (madeCells #[.int .u8 0] m) 5)):=fun w =>
   run_make_row' (P:=Tryz.prog) 61 5 (.int .u8 0) 1 Tryz.underlying61 info5 rfl .i64 .i64 m (by omega) (by omega) w
 have hb:((s.size:Int) % 2 != 0) = false:=by rw [bne_eq_false_iff_eq]; omega
 have hd:(s.size:Int) / 2 = (m:Int):=by omega
 have hle:2 * m <= s.size:=by omega
 have HH:=lH h
 clear h
 go_enter Tryz.func103,Tryz.ntmps103
 go_wp2
 clear hmk hb hd
 go_loopw [18] (fun i wr => ∃ k:Nat,k <= m /\ i = .int .i64 (k:Int) /\ Hid (okN s.data.toList k = true) /\ Hid (wr.rowIs w.heap.size 5 m (fun j => if j < k then .int .u8 (pairV s.data.toList j) else .int .u8 0)) /\ Hid (Since w wr)) (fun i _ => m - (intOf i).toNat)
 case atStart =>
   exact ⟨0,by omega,rfl,lH rfl,lH ((World.rowIs_made w (.int .u8 0) m 5).congr fun j _ => by simp),lH ((Since.refl w).alloc _)⟩
 case round =>
   obtain ⟨k,hk,rfl,HO,HR,HS⟩:=hrel
   by_cases hlt:k < m
   · have k1:2 * k < s.size:=by omega
     have k2:2 * k + 1 < s.size:=by omega
     have hs:=okN_succ s.data.toList k
     have hp:pairV s.data.toList k = 16 * hi s.data.toList k + lo s.data.toList k:=rfl
     obtain ⟨a,ha⟩:∃ a,s[2 * k].toNat = a:=⟨_,rfl⟩
     obtain ⟨b,hb⟩:∃ b,s[2 * k + 1].toNat = b:=⟨_,rfl⟩
     have ha2:a < 256:=by rw [<- ha]; exact s[2 * k].toNat_lt
     have hb2:b < 256:=by rw [<- hb]; exact s[2 * k + 1].toNat_lt
     have hva:val a = hi s.data.toList k:=by unfold hi; rw [getD_at s _ k1,ha]
     have hvb:val b = lo s.data.toList k:=by unfold lo; rw [getD_at s _ k2,hb]
     have va:=val_lt a
     have vb:=val_lt b
     rw [hva] at va
     rw [hvb] at vb
     have C1:=lH (fun W => qval a ha2 _ hva W)
     have C2:=lH (fun W => qval b hb2 _ hvb W)
     clear hva hvb
     generalize hi s.data.toList k = x at *
     generalize lo s.data.toList k = y at *
     have HSS:=lH hs
     have HPP:=lH hp
     clear hs hp
     have hc:=HR.out.cell (i:=k) hlt
     have hf:=HR.out.frozen k
     have e1:IntKind.i64.wrap (2 * (k:Int)) = 2 * (k:Int):=IntWalk.i64_in _ (by omega)
     have e2:IntKind.i64.wrap (2 * (k:Int) + 1) = 2 * (k:Int) + 1:=IntWalk.i64_in _ (by omega)
     have n1:(2 * (k:Int)).toNat = 2 * k:=by omega
     have n2:(2 * (k:Int) + 1).toNat = 2 * k + 1:=by omega
     have q1:(0:Int) <= 2 * (k:Int):=by omega
     have q2:(0:Int) <= 2 * (k:Int) + 1:=by omega
     have l1:2 * (k:Int) < (s.size:Int):=by omega
     have l2:2 * (k:Int) + 1 < (s.size:Int):=by omega
     go_wp2_with fail
     go_quiet (first | (go_at_call 125; with_reducible exact Calls.quiet_of_same (C1.out _)) | (go_at_call 125; with_reducible exact Calls.quiet_of_same (C2.out _)))
     clear e1 e2 n1 n2 q1 q2 l1 l2
     have hno:okN s.data.toList (k + 1) = false -> okN s.data.toList m = false:=fun h => by
       cases hc:okN s.data.toList m with
       | false => rfl
       | true => rw [okN_le _ _ _ hc (by omega)] at h; cases h
     have HNO:=lH hno
     clear hno
     by_cases hx:0 <= x
     · by_cases hy:0 <= y
       · go_wp2_with fail
         go_roundw
         case rel =>
           refine ⟨k + 1,by omega,by go_num,lH (by rw [HSS.out,HO.out]; simp [hx,hy]),lH ((HR.out.set k _).drew.congr fun j hj => ?_),lH (Below.setCell (w:=wr.drewN _) (HS.out.step ⟨rfl,rfl,rfl,Nat.le_refl _,fun _ _ => rfl⟩) (p:=⟨w.heap.size,k,none⟩) (Nat.le_refl _) _)⟩
           by_cases h1:j = k
           · subst h1; rw [if_pos rfl,if_pos (by omega),HPP.out]
           · by_cases h2:j < k
             · simp [h1,h2,show j < k + 1 from by omega]
             · simp [h1,h2,show ¬ j < k + 1 from by omega]
         case measure => simp [intOf]; omega
       · have hf9:=HNO.out (by rw [HSS.out]; simp [hy])
         have HF:=lH hf9
         clear hf9
         have hX0:X = ⟨#[]⟩:=by rw [HXX.out,HF.out]; rfl
         have hB0:B = false:=by rw [HBB.out,HF.out]
         subst hX0 hB0
         go_wp2_with fail
         go_ret2
         exact ⟨rfl,Since.step (w':=wr.drewN _) HS.out ⟨rfl,rfl,rfl,Nat.le_refl _,fun _ _ => rfl⟩⟩
     · have hf9:=HNO.out (by rw [HSS.out]; simp [hx])
       have HF:=lH hf9
       clear hf9
       have hX0:X = ⟨#[]⟩:=by rw [HXX.out,HF.out]; rfl
       have hB0:B = false:=by rw [HBB.out,HF.out]
       subst hX0 hB0
       go_wp2_with fail
       go_ret2
       exact ⟨rfl,Since.step (w':=wr.drewN _) HS.out ⟨rfl,rfl,rfl,Nat.le_refl _,fun _ _ => rfl⟩⟩
   · obtain rfl:k = m:=by omega
     have hB0:B = true:=by rw [HBB.out,HO.out]
     have hX0:X = strOfNums ((List.range k).map (pairV s.data.toList)):=by rw [HXX.out,HO.out]; rfl
     subst hB0
     have g:=run_convert_bytes_arg (P:=Tryz.prog) wr 61 5 Tryz.underlying61 Tryz.underlying5 w.heap.size 0 k k ((List.range k).map (pairV s.data.toList)) (by simp) (fun i hi => by
       rw [Nat.zero_add,HR.out.cell hi,if_pos hi]; simp [List.getD,hi]) 9 Tryz.underlying9
     rw [<- hX0] at g
     clear hX0
     go_wp2_with fail
     go_ret2
     exact ⟨rfl,HS.out⟩
end Dig
namespace Dig
theorem take_snoc (s:ByteArray) (k:Nat) (h:k < s.size):s.data.toList.take (k + 1) = s.data.toList.take k ++ [s[k]]:=by
 rw [List.take_succ_eq_append_getElem (by simpa using h)]; rfl
def dg (n j:Nat):Int:=48 + ((n / 10 ^ j % 10:Nat):Int)
end Dig
namespace Dig
theorem slice20 (k b:Nat) (h0:1 <= k) (h1:k <= 20):∀ w:World,
   (Instr.sliceAt 154 (.pointer (some ⟨b,0,none⟩)) (some (.int .i64 (20 - (k:Int)))) none none).run Tryz.prog w = .ok (.slice (some ⟨b,20 - k,none⟩) k k) w:=by
 intro w
 rcases (show k = 1 ∨ k = 2 ∨ k = 3 ∨ k = 4 ∨ k = 5 ∨ k = 6 ∨ k = 7 ∨ k = 8 ∨ k = 9 ∨ k = 10 ∨ k = 11 ∨ k = 12 ∨ k = 13 ∨ k = 14 ∨ k = 15 ∨ k = 16 ∨ k = 17 ∨ k = 18 ∨ k = 19 ∨ k = 20 by omega) with rfl | rfl | rfl | rfl | rfl | rfl | rfl | rfl | rfl | rfl | rfl | rfl | rfl | rfl | rfl | rfl | rfl | rfl | rfl | rfl <;> kernel_rfl
theorem neg_mod (r:Int) (q:Nat) (h:r = -(q:Int)):r.tmod 10 = -((q % 10:Nat):Int):=by
 rw [h,Int.neg_tmod,Int.tmod_eq_emod_of_nonneg (by omega)]; simp
theorem neg_div (r:Int) (q:Nat) (h:r = -(q:Int)):r.tdiv 10 = -((q / 10:Nat):Int):=by
 rw [h,Int.neg_tdiv,Int.tdiv_eq_ediv_of_nonneg (by omega)]; simp
set_option maxHeartbeats 2000000 in
theorem num_pos (n:Int) (M:Nat) (w:World) (hn:0 < n) (hM:-n = -(M:Int)) (hM2:M <= 9223372036854775807) (_hlo:-9223372036854775808 <= n) (X:ByteArray)
   (hX:∀ L,1 <= L -> M < 10 ^ L -> (L = 1 ∨ 10 ^ (L - 1) <= M) -> X = strOfNums ((List.range L).map fun i => dg M (L - 1 - i))) :
   Calls Tryz.prog 88 #[.int .i64 n] w fun e w' => e = .returned (.string X) /\ Since w w':=by
 have HX:=lH hX
 have HM:=lH hM
 have hn9:n <= 9223372036854775807:=by omega
 clear hX hM
 go_enter Tryz.func88,Tryz.ntmps88
 go_wp2
 go_loopw [4,5] (fun a v wr => ∃ (k:Nat) (r:Int),k <= 19 /\ a = .int .i64 (20 - (k:Int)) /\ v = .int .i64 r /\ Hid (r = -((M / 10 ^ k:Nat):Int)) /\ r <= 0 /\ -9223372036854775808 <= r /\ Hid (k <= 1 ∨ 10 ^ (k - 1) <= M) /\
     Hid (wr.rowIs w.heap.size 154 20 (fun j => if 20 <= j + k /\ j < 20 then .int .u8 (dg M (19 - j)) else .int .u8 0)) /\ Hid (Since w wr)) (fun a _ _ => (intOf a).toNat)
 case atStart =>
   refine ⟨0,-n,by omega,rfl,rfl,lH (by rw [HM.out,Nat.pow_zero,Nat.div_one]),by omega,by omega,lH (Or.inl (by omega)),lH ?_,lH ((Since.refl w).alloc _)⟩
   refine (World.rowIs_alloc w _ _ (fun _ => .int .u8 0) (fun i hi => by
       match i,hi with
       | 0,_ | 1,_ | 2,_ | 3,_ | 4,_ | 5,_ | 6,_ | 7,_ | 8,_ | 9,_ | 10,_ | 11,_ | 12,_ | 13,_ | 14,_ | 15,_ | 16,_ | 17,_ | 18,_ | 19,_ => rfl
       | n + 20,hi => simp at hi; omega)).congr fun j _ => by rw [if_neg (by omega)]
 case round =>
   obtain ⟨k,r,hk,rfl,rfl,HR0,hr0,hr1,HK,HR,HS⟩:=hrel
   by_cases hgo:r = 0 /\ 1 <= k
   · obtain ⟨hr,hk1⟩:=hgo
     have hlt2:M < 10 ^ k:=by
       have h9:=HR0.out
       rw [hr] at h9
       have h8:M / 10 ^ k = 0:=by omega
       exact (Nat.div_eq_zero_iff.1 h8).resolve_left (Nat.ne_of_gt (Nat.pow_pos (by decide)))
     have hXX := HX.out k hk1 hlt2 (by rcases HK.out with h | h
                                       · exact Or.inl (by omega)
                                       · exact Or.inr h)
     have hb20:(20 - (k:Int) == 20) = false:=by rw [beq_eq_false_iff_ne]; omega
     have HXX:=lH hXX
     clear hXX hlt2
     subst hr
     have hsl:=slice20 k w.heap.size hk1 (by omega)
     have g:=run_convert_bytes_arg (P:=Tryz.prog) wr 61 5 Tryz.underlying61 Tryz.underlying5 w.heap.size (20 - k) k k ((List.range k).map fun i => dg M (k - 1 - i)) (by simp) (fun i hi => by
       rw [HR.out.cell (by omega),if_pos (by omega),show 19 - (20 - k + i) = k - 1 - i from by omega]; simp [List.getD,hi]) 9 Tryz.underlying9
     rw [<- HXX.out] at g
     go_wp2_with fail
     go_ret
     exact ⟨rfl,HS.out⟩
   · have hr9:r ≠ 0 ∨ k = 0:=by omega
     have hk18:k <= 18:=by
       rcases hr9 with h | h
       · apply Classical.byContradiction
         intro h7
         have h6:M / 10 ^ k = 0:=Nat.div_eq_of_lt (Nat.lt_of_le_of_lt hM2 (Nat.lt_of_lt_of_le (show (9223372036854775807:Nat) < 10 ^ 19 by decide) (Nat.pow_le_pow_right (by decide) (by omega))))
         have h5:=HR0.out
         omega
       · omega
     have hts:r.tmod 10 = -((M / 10 ^ k % 10:Nat):Int):=by exact neg_mod _ _ HR0.out
     have htd:r.tdiv 10 = -((M / 10 ^ (k + 1):Nat):Int):=by rw [Nat.pow_succ,<- Nat.div_div_eq_div_mul]; exact neg_div _ _ HR0.out
     have hkk:k + 1 <= 1 ∨ 10 ^ (k + 1 - 1) <= M:=by
       rcases hr9 with h | h
       · right
         apply Classical.byContradiction
         intro h7
         have h6:M / 10 ^ k = 0:=Nat.div_eq_of_lt (by simpa using h7)
         have h5:=HR0.out
         omega
       · left; omega
     have HKK:=lH hkk
     clear hkk
     obtain ⟨t,ht⟩:∃ t,t = r.tmod 10:=⟨_,rfl⟩
     obtain ⟨r',hr'⟩:∃ r',r' = r.tdiv 10:=⟨_,rfl⟩
     have e1:r.tmod 10 = t:=ht.symm
     have e2:r.tdiv 10 = r':=hr'.symm
     rw [<- ht] at hts
     rw [<- hr'] at htd
     have ht1:-9 <= t /\ t <= 0:=by rw [hts]; omega
     obtain ⟨ht1,ht2⟩:=ht1
     have hr23:r' <= 0 /\ -9223372036854775808 <= r':=by
       have h4:M / 10 ^ (k + 1) <= M:=Nat.div_le_self _ _
       rw [htd]
       generalize M / 10 ^ (k + 1) = Q at h4
       omega
     obtain ⟨hr2,hr3⟩:=hr23
     have HT:=lH hts
     have HTD:=lH htd
     clear hts htd ht hr'
     have hc:=HR.out.cell (i:=19 - k) (by omega)
     rw [if_neg (by omega)] at hc
     have hf:=HR.out.frozen (19 - k)
     have q1:(20 - (k:Int) - 1).toNat = 19 - k:=by omega
     by_cases hrz:r = 0
     · have hk0:k = 0:=by omega
       subst hk0
       exfalso
       have h9:=HR0.out
       rw [Nat.pow_zero,Nat.div_one] at h9
       have h8:=HM.out
       omega
     · have hbz:(r != 0) = true:=by rw [bne_iff_ne]; exact hrz
       clear hrz
       go_wp2_with fail
       go_roundw
       case rel =>
         refine ⟨k + 1,r',by omega,by first | rfl | go_num | (congr 1; omega),by first | rfl | simp,HTD,hr2,hr3,HKK,lH ((HR.out.set (19 - k) _).congr fun j hj => ?_),lH (Below.setCell HS.out (p:=⟨w.heap.size,19 - k,none⟩) (Nat.le_refl _) _)⟩
         by_cases h9:j = 19 - k
         · rw [if_pos h9,if_pos (by omega)]
           unfold dg
           rw [show 19 - j = k from by omega]
           congr 1
           have:=HT.out
           omega
         · rw [if_neg h9]
           by_cases h8:20 <= j + k /\ j < 20
           · rw [if_pos h8,if_pos (by omega)]
           · rw [if_neg h8,if_neg (by omega)]
       case measure => simp [intOf]; omega
set_option maxHeartbeats 2000000 in
theorem num_neg (n:Int) (M:Nat) (w:World) (hn:n < 0) (hM:n = -(M:Int)) (hM2:M <= 9223372036854775808) (hlo:-9223372036854775808 <= n) (X:ByteArray)
   (hX:∀ L,1 <= L -> M < 10 ^ L -> (L = 1 ∨ 10 ^ (L - 1) <= M) -> X = strOfNums (45 :: (List.range L).map fun i => dg M (L - 1 - i))) :
   Calls Tryz.prog 88 #[.int .i64 n] w fun e w' => e = .returned (.string X) /\ Since w w':=by
 have HX:=lH hX
 have HM:=lH hM
 clear hX hM
 go_enter Tryz.func88,Tryz.ntmps88
 go_wp2
 go_loopw [4,5] (fun a v wr => ∃ (k:Nat) (r:Int),k <= 19 /\ a = .int .i64 (20 - (k:Int)) /\ v = .int .i64 r /\ Hid (r = -((M / 10 ^ k:Nat):Int)) /\ r <= 0 /\ -9223372036854775808 <= r /\ Hid (k <= 1 ∨ 10 ^ (k - 1) <= M) /\
     Hid (wr.rowIs w.heap.size 154 20 (fun j => if 20 <= j + k /\ j < 20 then .int .u8 (dg M (19 - j)) else .int .u8 0)) /\ Hid (Since w wr)) (fun a _ _ => (intOf a).toNat)
 case atStart =>
   refine ⟨0,n,by omega,rfl,rfl,lH (by rw [HM.out,Nat.pow_zero,Nat.div_one]),by omega,by omega,lH (Or.inl (by omega)),lH ?_,lH ((Since.refl w).alloc _)⟩
   refine (World.rowIs_alloc w _ _ (fun _ => .int .u8 0) (fun i hi => by
       match i,hi with
       | 0,_ | 1,_ | 2,_ | 3,_ | 4,_ | 5,_ | 6,_ | 7,_ | 8,_ | 9,_ | 10,_ | 11,_ | 12,_ | 13,_ | 14,_ | 15,_ | 16,_ | 17,_ | 18,_ | 19,_ => rfl
       | n + 20,hi => simp at hi; omega)).congr fun j _ => by rw [if_neg (by omega)]
 case round =>
   obtain ⟨k,r,hk,rfl,rfl,HR0,hr0,hr1,HK,HR,HS⟩:=hrel
   by_cases hgo:r = 0 /\ 1 <= k
   · obtain ⟨hr,hk1⟩:=hgo
     have hlt2:M < 10 ^ k:=by
       have h9:=HR0.out
       rw [hr] at h9
       have h8:M / 10 ^ k = 0:=by omega
       exact (Nat.div_eq_zero_iff.1 h8).resolve_left (Nat.ne_of_gt (Nat.pow_pos (by decide)))
     have hXX := HX.out k hk1 hlt2 (by rcases HK.out with h | h
                                       · exact Or.inl (by omega)
                                       · exact Or.inr h)
     have hb20:(20 - (k:Int) == 20) = false:=by rw [beq_eq_false_iff_ne]; omega
     have HXX:=lH hXX
     clear hXX hlt2
     subst hr
     have hsl:∀ w':World,(Instr.sliceAt 154 (.pointer (some ⟨w.heap.size,0,none⟩)) (some (.int .i64 (20 - (k:Int) - 1))) none none).run Tryz.prog w' = .ok (.slice (some ⟨w.heap.size,19 - k,none⟩) (k + 1) (k + 1)) w':=fun w' => by
       have h:=slice20 (k + 1) w.heap.size (by omega) (by omega) w'
       rwa [show 20 - ((k + 1:Nat):Int) = 20 - (k:Int) - 1 from by omega,show 20 - (k + 1) = 19 - k from by omega] at h
     have hc:=HR.out.cell (i:=19 - k) (by omega)
     have hf:=HR.out.frozen (19 - k)
     have q1:(20 - (k:Int) - 1).toNat = 19 - k:=by omega
     have R2:=HR.out.set (19 - k) (.int .u8 45)
     have g:=run_convert_bytes_arg (P:=Tryz.prog) (wr.setCell ⟨w.heap.size,19 - k,none⟩ (.int .u8 45)) 61 5 Tryz.underlying61 Tryz.underlying5 w.heap.size (19 - k) (k + 1) (k + 1) (45 :: (List.range k).map fun i => dg M (k - 1 - i)) (by simp) (fun i hi => by
       rw [R2.cell (by omega)]
       cases i with
       | zero => rw [if_pos (by omega)]; rfl
       | succ i => rw [if_neg (by omega),if_pos (by omega),show 19 - (19 - k + (i + 1)) = k - 1 - i from by omega]; simp [List.getD,show i < k from by omega]) 9 Tryz.underlying9
     rw [<- HXX.out] at g
     clear R2
     go_wp2_with fail
     go_ret
     exact ⟨rfl,Below.setCell HS.out (p:=⟨w.heap.size,19 - k,none⟩) (Nat.le_refl _) _⟩
   · have hr9:r ≠ 0 ∨ k = 0:=by omega
     have hk18:k <= 18:=by
       rcases hr9 with h | h
       · apply Classical.byContradiction
         intro h7
         have h6:M / 10 ^ k = 0:=Nat.div_eq_of_lt (Nat.lt_of_le_of_lt hM2 (Nat.lt_of_lt_of_le (show (9223372036854775808:Nat) < 10 ^ 19 by decide) (Nat.pow_le_pow_right (by decide) (by omega))))
         have h5:=HR0.out
         omega
       · omega
     have hts:r.tmod 10 = -((M / 10 ^ k % 10:Nat):Int):=by exact neg_mod _ _ HR0.out
     have htd:r.tdiv 10 = -((M / 10 ^ (k + 1):Nat):Int):=by rw [Nat.pow_succ,<- Nat.div_div_eq_div_mul]; exact neg_div _ _ HR0.out
     have hkk:k + 1 <= 1 ∨ 10 ^ (k + 1 - 1) <= M:=by
       rcases hr9 with h | h
       · right
         apply Classical.byContradiction
         intro h7
         have h6:M / 10 ^ k = 0:=Nat.div_eq_of_lt (by simpa using h7)
         have h5:=HR0.out
         omega
       · left; omega
     have HKK:=lH hkk
     clear hkk
     obtain ⟨t,ht⟩:∃ t,t = r.tmod 10:=⟨_,rfl⟩
     obtain ⟨r',hr'⟩:∃ r',r' = r.tdiv 10:=⟨_,rfl⟩
     have e1:r.tmod 10 = t:=ht.symm
     have e2:r.tdiv 10 = r':=hr'.symm
     rw [<- ht] at hts
     rw [<- hr'] at htd
     have ht1:-9 <= t /\ t <= 0:=by rw [hts]; omega
     obtain ⟨ht1,ht2⟩:=ht1
     have hr23:r' <= 0 /\ -9223372036854775808 <= r':=by
       have h4:M / 10 ^ (k + 1) <= M:=Nat.div_le_self _ _
       rw [htd]
       generalize M / 10 ^ (k + 1) = Q at h4
       omega
     obtain ⟨hr2,hr3⟩:=hr23
     have HT:=lH hts
     have HTD:=lH htd
     clear hts htd ht hr'
     have hc:=HR.out.cell (i:=19 - k) (by omega)
     rw [if_neg (by omega)] at hc
     have hf:=HR.out.frozen (19 - k)
     have q1:(20 - (k:Int) - 1).toNat = 19 - k:=by omega
     by_cases hrz:r = 0
     · have hk0:k = 0:=by omega
       subst hk0
       exfalso
       have h9:=HR0.out
       rw [Nat.pow_zero,Nat.div_one] at h9
       have h8:=HM.out
       omega
     · have hbz:(r != 0) = true:=by rw [bne_iff_ne]; exact hrz
       clear hrz
       go_wp2_with fail
       go_roundw
       case rel =>
         refine ⟨k + 1,r',by omega,by first | rfl | go_num | (congr 1; omega),by first | rfl | simp,HTD,hr2,hr3,HKK,lH ((HR.out.set (19 - k) _).congr fun j hj => ?_),lH (Below.setCell HS.out (p:=⟨w.heap.size,19 - k,none⟩) (Nat.le_refl _) _)⟩
         by_cases h9:j = 19 - k
         · rw [if_pos h9,if_pos (by omega)]
           unfold dg
           rw [show 19 - j = k from by omega]
           congr 1
           have:=HT.out
           omega
         · rw [if_neg h9]
           by_cases h8:20 <= j + k /\ j < 20
           · rw [if_pos h8,if_pos (by omega)]
           · rw [if_neg h8,if_neg (by omega)]
       case measure => simp [intOf]; omega
set_option maxHeartbeats 1000000 in
theorem num_zero (w:World):Calls Tryz.prog 88 #[.int .i64 0] w fun e w' => e = .returned (.string ⟨#[48]⟩) /\ Since w w':=by
 go_enter Tryz.func88,Tryz.ntmps88
 go_wp2
 go_loopw [4,5] (fun a v wr => v = .int .i64 0 /\ ((a = .int .i64 20 /\ Hid (wr.rowIs w.heap.size 154 20 (fun _ => .int .u8 0))) ∨ (a = .int .i64 19 /\ Hid (wr.rowIs w.heap.size 154 20 (fun j => if j = 19 then .int .u8 48 else .int .u8 0)))) /\ Hid (Since w wr)) (fun a _ _ => (intOf a).toNat)
 case atStart =>
   refine ⟨rfl,Or.inl ⟨rfl,lH ?_⟩,lH ((Since.refl w).alloc _)⟩
   exact World.rowIs_alloc w _ _ (fun _ => .int .u8 0) (fun i hi => by
       match i,hi with
       | 0,_ | 1,_ | 2,_ | 3,_ | 4,_ | 5,_ | 6,_ | 7,_ | 8,_ | 9,_ | 10,_ | 11,_ | 12,_ | 13,_ | 14,_ | 15,_ | 16,_ | 17,_ | 18,_ | 19,_ => rfl
       | n + 20,hi => simp at hi; omega)
 case round =>
   obtain ⟨rfl,hcase,HS⟩:=hrel
   rcases hcase with ⟨rfl,HR⟩ | ⟨rfl,HR⟩
   · have hc:=HR.out.cell (i:=19) (by omega)
     have hf:=HR.out.frozen 19
     go_wp2_with fail
     go_roundw
     case rel => exact ⟨rfl,Or.inr ⟨rfl,lH (HR.out.set 19 _)⟩,lH (Below.setCell HS.out (p:=⟨w.heap.size,19,none⟩) (Nat.le_refl _) _)⟩
     case measure => simp [intOf]
   · have hsl:=slice20 1 w.heap.size (by omega) (by omega)
     have g:=run_convert_bytes_arg (P:=Tryz.prog) wr 61 5 Tryz.underlying61 Tryz.underlying5 w.heap.size 19 1 1 [48] rfl (fun i hi => by
       obtain rfl:i = 0:=by omega
       rw [HR.out.cell (by omega),if_pos (by omega)]; rfl) 9 Tryz.underlying9
     have hsl':∀ w':World,(Instr.sliceAt 154 (.pointer (some ⟨w.heap.size,0,none⟩)) (some (.int .i64 19)) none none).run Tryz.prog w' = .ok (.slice (some ⟨w.heap.size,19,none⟩) 1 1) w':=fun w' => hsl w'
     clear hsl
     go_wp2_with fail
     go_ret
     exact ⟨rfl,HS.out⟩
end Dig
namespace Dig
def digs:Nat -> Nat -> List UInt8
 | 0,_ => []
 | f+1,M => if M < 10 then [UInt8.ofNat (48 + M)] else digs f (M / 10) ++ [UInt8.ofNat (48 + M % 10)]
theorem digs_map (f:Nat):∀ (L M:Nat),1 <= L -> L <= f -> M < 10 ^ L -> (L = 1 ∨ 10 ^ (L - 1) <= M) -> digs f M = (List.range L).map fun i => UInt8.ofNat (dg M (L - 1 - i)).toNat:=by
 induction f with
 | zero => intro L M h1 h2; omega
 | succ f ih =>
   intro L M h1 h2 h3 h4
   unfold digs
   by_cases hM:M < 10
   · have hL:L = 1:=by
       rcases h4 with h | h
       · exact h
       · apply Classical.byContradiction
         intro hne
         have h6:10 ^ 1 <= 10 ^ (L - 1):=Nat.pow_le_pow_right (by decide) (by omega)
         omega
     subst hL
     rw [if_pos hM]
     have h5:(dg M 0).toNat = 48 + M:=by unfold dg; rw [Nat.pow_zero,Nat.div_one,Nat.mod_eq_of_lt hM]; omega
     show [UInt8.ofNat (48 + M)] = [UInt8.ofNat (dg M 0).toNat]
     rw [h5]
   · rw [if_neg hM]
     have hL:2 <= L:=by
       apply Classical.byContradiction
       intro hne
       have:L = 1:=by omega
       subst this
       omega
     obtain ⟨K,rfl⟩:∃ K,L = K + 1:=⟨L - 1,by omega⟩
     rw [ih K (M / 10) (by omega) (by omega) (by rw [Nat.pow_succ] at h3; omega) (by
       rcases h4 with h | h
       · omega
       · by_cases hK:K = 1
         · exact Or.inl hK
         · right
           have h7:10 ^ (K - 1) * 10 = 10 ^ K:=by rw [<- Nat.pow_succ,show (K - 1).succ = K from by omega]
           simp at h
           rw [Nat.le_div_iff_mul_le (by decide),h7]; exact h)]
     rw [List.range_succ,List.map_append,List.map_cons,List.map_nil]
     congr 1
     · apply List.map_congr_left
       intro i hi
       have hi':=List.mem_range.1 hi
       unfold dg
       rw [Nat.div_div_eq_div_mul,Nat.mul_comm 10,<- Nat.pow_succ,show (K - 1 - i).succ = K + 1 - 1 - i from by omega]
     · unfold dg
       rw [show K + 1 - 1 - K = 0 from by omega,Nat.pow_zero,Nat.div_one]
       congr 2
def step (n:Int) (c:UInt8):Int:=if 48 <= c.toNat /\ c.toNat <= 57 then wrap64 (10 * n - ((c.toNat:Int) - 48)) else n
theorem step_dig (n:Int) (d:Nat) (hd:d < 10):step n (UInt8.ofNat (48 + d)) = wrap64 (10 * n - d):=by
 have h:(UInt8.ofNat (48 + d)).toNat = 48 + d:=by rw [UInt8.toNat_ofNat']; omega
 unfold step
 rw [h,if_pos (by omega)]
 congr 1
 omega
theorem fold_digs (f:Nat):∀ M:Nat,M < 10 ^ f -> M <= 9223372036854775808 -> (digs f M).foldl step 0 = -(M:Int):=by
 induction f with
 | zero => intro M h _; simp at h; subst h; rfl
 | succ f ih =>
   intro M h1 h2
   unfold digs
   by_cases hM:M < 10
   · rw [if_pos hM]
     show step 0 (UInt8.ofNat (48 + M)) = _
     rw [step_dig 0 M hM,IntWalk.wrap64_in _ (by omega)]; omega
   · rw [if_neg hM,List.foldl_append,ih (M / 10) (by rw [Nat.pow_succ] at h1; omega) (by omega)]
     show step _ (UInt8.ofNat (48 + M % 10)) = _
     rw [step_dig _ _ (Nat.mod_lt _ (by decide)),IntWalk.wrap64_in _ (by omega)]; omega
def numS (n:Int):List UInt8:=if n < 0 then 45 :: digs 20 n.natAbs else digs 20 n.natAbs
def unF (t:List UInt8):Int:=t.foldl step 0
def unV (t:List UInt8):Int:=if t ≠ [] /\ t.head? ≠ some 45 then wrap64 (-(unF t)) else unF t
theorem digs_head (f M:Nat) (hf:1 <= f):digs f M ≠ [] /\ (digs f M).head? ≠ some 45:=by
 induction f generalizing M with
 | zero => omega
 | succ f ih =>
   unfold digs
   by_cases hM:M < 10
   · rw [if_pos hM]
     refine ⟨by simp, ?_⟩
     intro h
     have h2:UInt8.ofNat (48 + M) = 45:=by simpa using h
     have h3:=congrArg UInt8.toNat h2
     rw [UInt8.toNat_ofNat'] at h3
     have h4:(45:UInt8).toNat = 45:=rfl
     omega
   · rw [if_neg hM]
     refine ⟨by simp, ?_⟩
     by_cases hf:f = 0
     · subst hf
       intro h
       have h2:UInt8.ofNat (48 + M % 10) = 45:=by simpa [digs] using h
       have h3:=congrArg UInt8.toNat h2
       rw [UInt8.toNat_ofNat'] at h3
       have h4:(45:UInt8).toNat = 45:=rfl
       omega
     · obtain ⟨h1,h2⟩:=ih (M / 10) (by omega)
       rw [List.head?_append]
       cases hd:digs f (M / 10) with
       | nil => exact absurd hd h1
       | cons x l => rw [hd] at h2; simpa using h2
theorem unV_numS (n:Int) (h:-9223372036854775808 <= n /\ n <= 9223372036854775807):unV (numS n) = n:=by
 have hlt:n.natAbs < 10 ^ 20:=Nat.lt_of_le_of_lt (show n.natAbs <= 9223372036854775808 by omega) (by decide)
 unfold unV numS
 by_cases h0:n < 0
 · rw [if_pos h0,if_neg (by simp)]
   have h1:unF (45 :: digs 20 n.natAbs) = (digs 20 n.natAbs).foldl step 0:=by
     unfold unF
     show (digs 20 n.natAbs).foldl step (step 0 45) = _
     rfl
   rw [h1,fold_digs 20 _ hlt (by omega)]; omega
 · rw [if_neg h0,if_pos (digs_head 20 _ (by decide))]
   unfold unF
   rw [fold_digs 20 _ hlt (by omega),IntWalk.wrap64_in _ (by omega)]; omega
theorem wrap_sub (a b:Int):wrap64 (wrap64 a - b) = wrap64 (a - b):=by unfold wrap64; omega
end Dig
namespace Dig
theorem num_mak (n:Int) (h:-9223372036854775808 <= n /\ n <= 9223372036854775807):Mak 88 #[.int .i64 n] (.string (bs (numS n))):=by
 intro w
 have hd:∀ L,1 <= L -> n.natAbs < 10 ^ L -> (L = 1 ∨ 10 ^ (L - 1) <= n.natAbs) -> digs 20 n.natAbs = (List.range L).map fun i => UInt8.ofNat (dg n.natAbs (L - 1 - i)).toNat:=fun L h1 h2 h3 =>
   digs_map 20 L n.natAbs h1 (by
     rcases h3 with h3 | h3
     · omega
     · apply Classical.byContradiction
       intro hne
       have h5:10 ^ 20 <= 10 ^ (L - 1):=Nat.pow_le_pow_right (by decide) (by omega)
       have h6:(9223372036854775808:Nat) < 10 ^ 20:=by decide
       omega) h2 h3
 rcases (show n < 0 ∨ n = 0 ∨ 0 < n by omega) with h0 | h0 | h0
 · refine num_neg n n.natAbs w h0 (by omega) (by omega) (by omega) _ (fun L h1 h2 h3 => ?_)
   unfold numS
   rw [if_pos h0,hd L h1 h2 h3,bs_nums]
   simp
   rfl
 · subst h0
   exact num_zero w
 · refine num_pos n n.natAbs w h0 (by omega) (by omega) (by omega) _ (fun L h1 h2 h3 => ?_)
   unfold numS
   rw [if_neg (by omega),hd L h1 h2 h3,bs_nums]
   simp
   rfl
set_option maxHeartbeats 1000000 in
theorem unnum_long (s:ByteArray) (w:World) (hm:s.size <= 140737488355328) (h:20 < s.size) :
   Calls Tryz.prog 106 #[.string s] w fun e w' => e = .returned (.tuple #[.int .i64 0,.bool false]) /\ Since w w':=by
 go_enter Tryz.func106,Tryz.ntmps106
 go_wp2
 go_ret2
 exact ⟨rfl,Since.refl w⟩
theorem fold_snoc (l:List UInt8) (c:UInt8):(l ++ [c]).foldl step 0 = step (l.foldl step 0) c:=by rw [List.foldl_append]; rfl
theorem wrap_bounds (a:Int):-9223372036854775808 <= wrap64 a /\ wrap64 a <= 9223372036854775807:=by unfold wrap64; omega
theorem step_bounds (n:Int) (c:UInt8) (h:-9223372036854775808 <= n /\ n <= 9223372036854775807):-9223372036854775808 <= step n c /\ step n c <= 9223372036854775807:=by
 unfold step; split
 · exact wrap_bounds _
 · exact h
theorem fold_bounds (l:List UInt8):∀ q,-9223372036854775808 <= q /\ q <= 9223372036854775807 -> -9223372036854775808 <= l.foldl step q /\ l.foldl step q <= 9223372036854775807:=by
 induction l with
 | nil => intro q h; exact h
 | cons c l ih => intro q h; exact ih _ (step_bounds q c h)
theorem unV_bounds (l:List UInt8):-9223372036854775808 <= unV l /\ unV l <= 9223372036854775807:=by
 unfold unV
 split
 · exact wrap_bounds _
 · exact fold_bounds l 0 (by omega)
set_option maxHeartbeats 2000000 in
theorem unnum_short (s:ByteArray) (w:World) (hs:s.size <= 20) (V0 V:Int) (B:Bool) (h0:V0 = unV s.data.toList) (hB:B = decide (bs (numS V0) = s)) (hV:V = if bs (numS V0) = s then V0 else 0) :
   Calls Tryz.prog 106 #[.string s] w fun e w' => e = .returned (.tuple #[.int .i64 V,.bool B]) /\ Since w w':=by
 have hbd:-9223372036854775808 <= V0 /\ V0 <= 9223372036854775807:=by rw [h0]; exact unV_bounds _
 obtain ⟨hbd1,hbd2⟩:=hbd
 have HB:=lH hB
 clear hB
 have HV:=lH hV
 clear hV
 have HV0:=lH h0
 clear h0
 have H0:=lH (Since.refl w)
 go_enter Tryz.func106,Tryz.ntmps106
 go_wp2
 go_loop [4,11] (fun n i => ∃ (k:Nat) (q:Int),k <= s.size /\ i = .int .i64 (k:Int) /\ n = .int .i64 q /\ Hid (q = (s.data.toList.take k).foldl step 0) /\ -9223372036854775808 <= q /\ q <= 9223372036854775807) (fun _ i => s.size - (intOf i).toNat)
 case atStart => exact ⟨0,0,Nat.zero_le _,rfl,rfl,lH rfl,by omega,by omega⟩
 case round =>
   obtain ⟨k,q,hk,rfl,rfl,HQ,hq1,hq2⟩:=hrel
   by_cases hlt:k < s.size
   · have hts:(s.data.toList.take (k + 1)).foldl step 0 = step q s[k]:=by rw [take_snoc s k hlt,fold_snoc,HQ.out]
     have hbd:=step_bounds q s[k] ⟨hq1,hq2⟩
     have hc:=s[k].toNat_lt
     have HS:=lH hts
     have HBD:=lH hbd
     clear hts hbd
     by_cases c1:48 <= s[k].toNat
     · by_cases c2:s[k].toNat <= 57
       · have hst:step q s[k] = wrap64 (10 * q - ((s[k].toNat:Int) - 48)):=by unfold step; rw [if_pos ⟨c1,c2⟩]
         have HST:=lH hst
         clear hst
         go_wp2_with fail
         go_round
         case rel => exact ⟨k + 1,step q s[k],by omega,by go_num,by rw [HST.out]; first | rfl | (rw [wrap_sub]),lH HS.out.symm,HBD.out.1,HBD.out.2⟩
         case measure => simp [intOf]; omega
       · have hst:step q s[k] = q:=by unfold step; rw [if_neg (fun h => c2 h.2)]
         have HST:=lH hst
         clear hst
         go_wp2_with fail
         go_round
         case rel => exact ⟨k + 1,q,by omega,by go_num,rfl,lH (by rw [HS.out,HST.out]),hq1,hq2⟩
         case measure => simp [intOf]; omega
     · have hst:step q s[k] = q:=by unfold step; rw [if_neg (fun h => c1 h.1)]
       have HST:=lH hst
       clear hst
       go_wp2_with fail
       go_round
       case rel => exact ⟨k + 1,q,by omega,by go_num,rfl,lH (by rw [HS.out,HST.out]),hq1,hq2⟩
       case measure => simp [intOf]; omega
   · have hqf:q = unF s.data.toList:=by rw [HQ.out,List.take_of_length_le (by simp; omega)]; rfl
     have HQF:=lH hqf
     clear hqf
     have h9:s.size = s.data.toList.length:=rfl
     by_cases hz:s.size = 0
     · obtain rfl:s = ⟨#[]⟩:=ba_ext (List.eq_nil_of_length_eq_zero (by omega))
       have hq0:q = 0:=by rw [HQF.out]; rfl
       have hv0:V0 = 0:=by rw [HV0.out]; rfl
       subst hq0
       subst hv0
       clear h9
       go_wp2_with fail
       refine (num_mak 0 (by omega)).calls H0.out ?_
       intro w1 hw
       have Hw:=lH hw
       clear hw
       have hE:bs (numS 0) ≠ ⟨#[]⟩:=by decide +kernel
       have hst:=some_bytes (bs (numS 0)) (by decide +kernel)
       have hB0:B = false:=by rw [HB.out]; exact decide_eq_false hE
       have hV0:V = 0:=by rw [HV.out,if_neg hE]
       subst hB0 hV0
       have HE:=lH hE
       clear hE
       go_wp2_with fail
       go_ret2
       exact ⟨rfl,Hw.out⟩
     · have hpos:0 < s.size:=by omega
       have hne:=some_bytes s hpos
       clear hz
       have hhead:s.data.toList.head? = some s[0]:=by
         rw [List.head?_eq_getElem?,List.getElem?_eq_getElem (show 0 < s.data.toList.length by omega)]; rfl
       have hnil:s.data.toList ≠ []:=fun h => by rw [h,List.length_nil] at h9; omega
       by_cases h45:s[0].toNat = 45
       · have hb:((s[0].toNat:Int) != 45) = false:=by rw [h45]; rfl
         have hv0:q = V0:=by
           rw [HV0.out,HQF.out]; unfold unV
           rw [if_neg (fun h => h.2 (by rw [hhead]; exact congrArg some (UInt8.toNat_inj.1 h45)))]
         have Hv0:=lH hv0
         clear hv0
         have H9:=lH h9
         clear h9
         have Hhead:=lH hhead
         clear hhead
         have Hnil:=lH hnil
         clear hnil
         have H45:=lH h45
         clear h45
         go_wp2_with fail
         rw [Hv0.out]
         refine (num_mak V0 (by omega)).calls H0.out ?_
         intro w1 hW
         have HW:=lH hW
         clear hW
         by_cases hE:bs (numS V0) = s
         · have hst:=str_eq_f hE
           have hB0:B = true:=by rw [HB.out]; exact decide_eq_true hE
           have hV0:V = V0:=by rw [HV.out,if_pos hE]
           subst hB0 hV0
           have HE:=lH hE
           clear hE
           go_wp2_with fail
           go_ret2
           exact ⟨rfl,HW.out⟩
         · have hst:=str_ne_t hE
           have hB0:B = false:=by rw [HB.out]; exact decide_eq_false hE
           have hV0:V = 0:=by rw [HV.out,if_neg hE]
           subst hB0 hV0
           have HE:=lH hE
           clear hE
           go_wp2_with fail
           go_ret2
           exact ⟨rfl,HW.out⟩
       · have hb:((s[0].toNat:Int) != 45) = true:=by rw [bne_iff_ne]; omega
         have hv0:wrap64 (-q) = V0:=by
           rw [HV0.out,HQF.out]; unfold unV
           rw [if_pos ⟨hnil,fun h => h45 (by rw [hhead] at h; rw [Option.some.inj h]; rfl)⟩]
         have H9:=lH h9
         clear h9
         have Hhead:=lH hhead
         clear hhead
         have Hnil:=lH hnil
         clear hnil
         have H45:=lH h45
         clear h45
         have Hv0:=lH hv0
         clear hv0
         go_wp2_with fail
         rw [Hv0.out]
         refine (num_mak V0 (by omega)).calls H0.out ?_
         intro w1 hW
         have HW:=lH hW
         clear hW
         by_cases hE:bs (numS V0) = s
         · have hst:=str_eq_f hE
           have hB0:B = true:=by rw [HB.out]; exact decide_eq_true hE
           have hV0:V = V0:=by rw [HV.out,if_pos hE]
           subst hB0 hV0
           have HE:=lH hE
           clear hE
           go_wp2_with fail
           go_ret2
           exact ⟨rfl,HW.out⟩
         · have hst:=str_ne_t hE
           have hB0:B = false:=by rw [HB.out]; exact decide_eq_false hE
           have hV0:V = 0:=by rw [HV.out,if_neg hE]
           subst hB0 hV0
           have HE:=lH hE
           clear hE
           go_wp2_with fail
           go_ret2
           exact ⟨rfl,HW.out⟩
end Dig
namespace RefDig
open Dig
theorem digs_spec (f:Nat):∀ M:Nat,1 <= f -> M < 10 ^ f -> 1 <= (digs f M).length /\ (digs f M).length <= f /\ M < 10 ^ (digs f M).length /\ ((digs f M).length = 1 ∨ 10 ^ ((digs f M).length - 1) <= M):=by
 induction f with
 | zero => intro M h; omega
 | succ f ih =>
   intro M _ h2
   unfold digs
   by_cases hM:M < 10
   · rw [if_pos hM]; simp; omega
   · rw [if_neg hM]
     have hf:1 <= f:=by
       apply Classical.byContradiction
       intro h
       have:f = 0:=by omega
       subst this
       simp at h2
       omega
     obtain ⟨a,b,c,d⟩:=ih (M / 10) hf (by rw [Nat.pow_succ] at h2; omega)
     rw [List.length_append]
     obtain ⟨L,hL⟩:∃ L,L = (digs f (M / 10)).length:=⟨_,rfl⟩
     rw [<- hL] at a b c d ⊢
     simp only [List.length_cons,List.length_nil,Nat.zero_add,Nat.add_sub_cancel]
     refine ⟨by omega,by omega,by rw [Nat.pow_succ]; omega,Or.inr ?_⟩
     rcases d with d | d
     · rw [d]; omega
     · obtain ⟨K,rfl⟩:∃ K,L = K + 1:=⟨L - 1,by omega⟩
       rw [Nat.add_sub_cancel] at d
       rw [Nat.pow_succ]
       omega
theorem digs_fuel (f:Nat):∀ M:Nat,M < 10 ^ f -> 1 <= f -> digs f M = digs (f + 1) M:=by
 induction f with
 | zero => intro M _ h; omega
 | succ f ih =>
   intro M h2 _
   show (if M < 10 then [UInt8.ofNat (48 + M)] else digs f (M / 10) ++ [UInt8.ofNat (48 + M % 10)]) = (if M < 10 then [UInt8.ofNat (48 + M)] else digs (f + 1) (M / 10) ++ [UInt8.ofNat (48 + M % 10)])
   by_cases hM:M < 10
   · rw [if_pos hM,if_pos hM]
   · rw [if_neg hM,if_neg hM,ih (M / 10) (by rw [Nat.pow_succ] at h2; omega) (by
       apply Classical.byContradiction
       intro h
       have:f = 0:=by omega
       subst this
       simp at h2
       omega)]
end RefDig
namespace RefDig
open Dig
end RefDig
namespace RefHead
open Head
theorem conv_any (x:Int) (S:ByteArray) (hS:strOfNums [x] = S):∀ (W:World) (g:Nat),W.cell? ⟨g,0,none⟩ = some (.int .u8 x) -> ∀ dst,Tryz.prog.underlying dst = some .string -> (convert 61 dst (.slice (some ⟨g,0,none⟩) 1 1)).run Tryz.prog W = .ok (.string S) W:=by
 subst hS
 intro W g hc
 refine run_convert_bytes_arg (P:=Tryz.prog) W 61 5 Tryz.underlying61 Tryz.underlying5 g 0 1 1 [x] rfl fun i hi => ?_
 obtain rfl:i = 0:=by omega
 exact hc
set_option maxHeartbeats 2000000 in
theorem dig_mak (n:Nat) (hn:n <= 2097151) (X:ByteArray) (hX:X = bs (digL n)):Mak 110 #[.int .i64 (n:Int)] (.string X):=by
 intro w
 have K0:=conv_any ((n:Int) % 128) (bs [UInt8.ofNat (n % 128)]) rfl
 have HX:=lH hX
 clear hX
 go_enter Tryz.func110,Tryz.ntmps110
 go_wp2_with fail
 clear K0
 go_loopw [0,3] (fun v s wr => ∃ (q:Nat) (L:List UInt8),v = .int .i64 (q:Int) /\ s = .string (bs L) /\ q <= 2097151 /\ L.length <= 3 /\ Hid (q = n / 128 /\ L = [UInt8.ofNat (n % 128)] ∨ 128 <= n /\ q = n / 16384 /\ L = [UInt8.ofNat (128 + n / 128 % 128),UInt8.ofNat (n % 128)] ∨ 16384 <= n /\ q = 0 /\ L = [UInt8.ofNat (128 + n / 16384 % 128),UInt8.ofNat (128 + n / 128 % 128),UInt8.ofNat (n % 128)]) /\ Hid (Since w wr)) (fun v _ _ => (intOf v).toNat)
 case atStart => exact ⟨n / 128,[UInt8.ofNat (n % 128)],by simp,rfl,by omega,by simp,lH (Or.inl ⟨rfl,rfl⟩),lH ((Since.refl w).alloc _)⟩
 case round =>
   obtain ⟨q,L,rfl,rfl,hq,hL,HC,HS⟩:=hrel
   by_cases h0:q = 0
   · subst h0
     have hXL:X = bs L:=by
       rw [HX.out]
       congr 1
       rcases HC.out with ⟨h1,h2⟩ | ⟨h1,h2,h3⟩ | ⟨h1,h2,h3⟩
       · rw [h2,digL_1 n (by omega),Nat.mod_eq_of_lt (by omega)]
       · rw [h3,digL_2 n h1 (by omega),show n / 128 % 128 = n / 128 from by omega]
       · rw [h3,digL_3 n h1 hn,show n / 16384 % 128 = n / 16384 from by omega]
     subst hXL
     go_wp2_with fail
     go_ret
     exact ⟨rfl,HS.out⟩
   · have hpos:0 < q:=by omega
     obtain ⟨d,hd⟩:∃ d:UInt8,d = UInt8.ofNat (128 + q % 128):=⟨_,rfl⟩
     have K1:=conv_any (128 + (q:Int) % 128) (bs [d]) (by rw [hd]; rfl)
     have hcat:bs [d] ++ bs L = bs (d :: L):=by apply ba_ext; rw [app_list]; rfl
     have hsz:¬ 9223372036854775807 < (bs [d]).size + (bs L).size:=by rw [size_bs,size_bs]; simp; omega
     have hnext:q / 128 <= 2097151 /\ (d :: L).length <= 3 /\ (128 <= n /\ q / 128 = n / 16384 /\ d :: L = [UInt8.ofNat (128 + n / 128 % 128),UInt8.ofNat (n % 128)] ∨ 16384 <= n /\ q / 128 = 0 /\ d :: L = [UInt8.ofNat (128 + n / 16384 % 128),UInt8.ofNat (128 + n / 128 % 128),UInt8.ofNat (n % 128)]):=by
       rcases HC.out with ⟨h1,h2⟩ | ⟨h1,h2,h3⟩ | ⟨h1,h2,h3⟩
       · refine ⟨by omega,by rw [h2]; simp,Or.inl ⟨by omega,by omega,by rw [h2,hd,h1]⟩⟩
       · refine ⟨by omega,by rw [h3]; simp,Or.inr ⟨by omega,by omega,by rw [h3,hd,h2]⟩⟩
       · exact absurd h2 h0
     obtain ⟨n1,n2,n3⟩:=hnext
     have HN3:=lH n3
     clear n3 hd
     generalize hLL:bs (d :: L) = LL at hcat
     go_wp2_with fail
     go_roundw
     case rel => exact ⟨q / 128,d :: L,by simp,by rw [hLL],n1,n2,lH (Or.inr HN3.out),lH (HS.out.alloc _)⟩
     case measure => simp [intOf]; omega
set_option maxHeartbeats 2000000 in
theorem may_yes (c t n:Int) (b:Bool) (h:okH c t n):Mak 109 #[.agg #[.int .i64 c,.int .i64 t,.bool b,.int .i64 n]] (.bool true):=by
 intro w
 obtain ⟨h1,h2,h3,h4,h5,h6⟩:=h
 have h2':c < 4:=by omega
 go_enter Tryz.func109,Tryz.ntmps109
 go_wp2_with fail
 go_ret
 exact ⟨rfl,(Since.refl w).alloc _⟩
theorem low1 (n:Nat) (h:n < 256):RefOct.low (n:Int) 1 = [UInt8.ofNat n]:=by
 show [UInt8.ofNat ((n:Int) / 2 ^ (8 * 0) % 256).toNat] = _
 congr 2
 simp
 omega
theorem low2 (n:Nat) (h:n <= 65535):RefOct.low (n:Int) 2 = [UInt8.ofNat (n / 256),UInt8.ofNat (n % 256)]:=by
 show [UInt8.ofNat ((n:Int) / 2 ^ (8 * 1) % 256).toNat,UInt8.ofNat ((n:Int) / 2 ^ (8 * 0) % 256).toNat] = _
 have e1:((n:Int) / 2 ^ (8 * 1) % 256).toNat = n / 256:=by simp; omega
 have e2:((n:Int) / 2 ^ (8 * 0) % 256).toNat = n % 256:=by simp; omega
 rw [e1,e2]
set_option maxHeartbeats 8000000 in
theorem enc_st (c t n:Nat) (F:Int) (hF:64 * (c:Int) + (if true then 32 else 0) = F) (hc:c <= 3) (ht:t < 31) (hn:n <= 65535) (c1:Mak 109 #[.agg #[.int .i64 (c:Int),.int .i64 (t:Int),.bool true,.int .i64 (n:Int)]] (.bool true))
   (A:ByteArray) (hAs:A.size <= 4) (K1:∀ (W:World) (g:Nat),W.cell? ⟨g,0,none⟩ = some (.int .u8 (F + t)) -> ∀ dst,Tryz.prog.underlying dst = some .string -> (convert 61 dst (.slice (some ⟨g,0,none⟩) 1 1)).run Tryz.prog W = .ok (.string A) W) (X:ByteArray)
   (hX:n < 128 /\ A ++ bs [UInt8.ofNat n] = X ∨ 128 <= n /\ n < 256 /\ A ++ ⟨#[129]⟩ ++ bs (RefOct.low (n:Int) 1) = X ∨ 256 <= n /\ A ++ ⟨#[130]⟩ ++ bs (RefOct.low (n:Int) 2) = X) (w:World) :
   Calls Tryz.prog 77 #[.agg #[.int .i64 (c:Int),.int .i64 (t:Int),.bool true,.int .i64 (n:Int)]] w fun e w' => e = .returned (.tuple #[.string X,.int .i64 0]) /\ Since w w':=by
 simp only [if_true] at hF
 have hF2:0 <= F /\ F <= 224:=by omega
 obtain ⟨f1,f2⟩:=hF2
 rcases hX with ⟨h1,hX⟩ | ⟨h1,h2,hX⟩ | ⟨h1,hX⟩
 · have K2:=conv_any (n:Int) (bs [UInt8.ofNat n]) rfl
   have hz:(bs [UInt8.ofNat n]).size = 1:=rfl
   generalize bs [UInt8.ofNat n] = N at *
   have hsz:¬ 9223372036854775807 < A.size + N.size:=by omega
   go_enter Tryz.func77,Tryz.ntmps77
   go_wp2_with fail
   refine c1.calls0 ?_
   intro w1 h1
   obtain ⟨q0,q1,q2,q3⟩:=box4 (show Since (w.alloc (.cells #[.int .i64 (c:Int),.int .i64 (t:Int),.bool true,.int .i64 (n:Int)] 111)) w1 from h1)
   have hlt:w.heap.size < w1.heap.size:=by have h9:=Below.size h1; simp at h9; omega
   have H1:Hid (Since w w1):=lH (Since.step ((Since.refl w).alloc _) h1)
   clear h1
   go_wp2_with fail
   go_ret2
   exact ⟨rfl,by first | exact H1.out.alloc _ | exact (H1.out.alloc _).alloc _⟩
 · have c3:Mak 111 #[.int .u64 (n:Int),.int .i64 1] (.string (bs (RefOct.low (n:Int) 1))):=fun w => RefOct.put_mid (n:Int) 1 w (by omega) (by omega) (by decide) (by decide)
   have hz:(bs (RefOct.low (n:Int) 1)).size = 1:=RefOct.low_len _ _
   generalize bs (RefOct.low (n:Int) 1) = N at *
   have hz2:(A ++ ⟨#[129]⟩).size = A.size + 1:=by simp; rfl
   have hsz:¬ 9223372036854775807 < A.size + (⟨#[129]⟩:ByteArray).size:=by rw [show (⟨#[129]⟩:ByteArray).size = 1 from rfl]; omega
   have hsz2:¬ 9223372036854775807 < (A ++ ⟨#[129]⟩).size + N.size:=by omega
   go_enter Tryz.func77,Tryz.ntmps77
   go_wp2_with fail
   refine c1.calls0 ?_
   intro w1 h1
   obtain ⟨q0,q1,q2,q3⟩:=box4 (show Since (w.alloc (.cells #[.int .i64 (c:Int),.int .i64 (t:Int),.bool true,.int .i64 (n:Int)] 111)) w1 from h1)
   have hlt:w.heap.size < w1.heap.size:=by have h9:=Below.size h1; simp at h9; omega
   have H1:Hid (Since w w1):=lH (Since.step ((Since.refl w).alloc _) h1)
   clear h1
   go_wp2_with fail
   refine c3.calls0 ?_
   intro w6 h6
   have H6:Hid (Since w w6):=lH (Since.step (by first | exact H1.out | exact H1.out.alloc _) h6)
   clear h6
   go_wp2_with fail
   go_ret2
   exact ⟨rfl,H6.out⟩
 · have c3:Mak 111 #[.int .u64 (n:Int),.int .i64 2] (.string (bs (RefOct.low (n:Int) 2))):=fun w => RefOct.put_mid (n:Int) 2 w (by omega) (by omega) (by decide) (by decide)
   have hz:(bs (RefOct.low (n:Int) 2)).size = 2:=RefOct.low_len _ _
   generalize bs (RefOct.low (n:Int) 2) = N at *
   have hz2:(A ++ ⟨#[130]⟩).size = A.size + 1:=by simp; rfl
   have hsz:¬ 9223372036854775807 < A.size + (⟨#[130]⟩:ByteArray).size:=by rw [show (⟨#[130]⟩:ByteArray).size = 1 from rfl]; omega
   have hsz2:¬ 9223372036854775807 < (A ++ ⟨#[130]⟩).size + N.size:=by omega
   go_enter Tryz.func77,Tryz.ntmps77
   go_wp2_with fail
   refine c1.calls0 ?_
   intro w1 h1
   obtain ⟨q0,q1,q2,q3⟩:=box4 (show Since (w.alloc (.cells #[.int .i64 (c:Int),.int .i64 (t:Int),.bool true,.int .i64 (n:Int)] 111)) w1 from h1)
   have hlt:w.heap.size < w1.heap.size:=by have h9:=Below.size h1; simp at h9; omega
   have H1:Hid (Since w w1):=lH (Since.step ((Since.refl w).alloc _) h1)
   clear h1
   go_wp2_with fail
   refine c3.calls0 ?_
   intro w6 h6
   have H6:Hid (Since w w6):=lH (Since.step (by first | exact H1.out | exact H1.out.alloc _) h6)
   clear h6
   go_wp2_with fail
   go_ret2
   exact ⟨rfl,H6.out⟩
set_option maxHeartbeats 8000000 in
theorem enc_sf (c t n:Nat) (F:Int) (hF:64 * (c:Int) + (if false then 32 else 0) = F) (hc:c <= 3) (ht:t < 31) (hn:n <= 65535) (c1:Mak 109 #[.agg #[.int .i64 (c:Int),.int .i64 (t:Int),.bool false,.int .i64 (n:Int)]] (.bool true))
   (A:ByteArray) (hAs:A.size <= 4) (K1:∀ (W:World) (g:Nat),W.cell? ⟨g,0,none⟩ = some (.int .u8 (F + t)) -> ∀ dst,Tryz.prog.underlying dst = some .string -> (convert 61 dst (.slice (some ⟨g,0,none⟩) 1 1)).run Tryz.prog W = .ok (.string A) W) (X:ByteArray)
   (hX:n < 128 /\ A ++ bs [UInt8.ofNat n] = X ∨ 128 <= n /\ n < 256 /\ A ++ ⟨#[129]⟩ ++ bs (RefOct.low (n:Int) 1) = X ∨ 256 <= n /\ A ++ ⟨#[130]⟩ ++ bs (RefOct.low (n:Int) 2) = X) (w:World) :
   Calls Tryz.prog 77 #[.agg #[.int .i64 (c:Int),.int .i64 (t:Int),.bool false,.int .i64 (n:Int)]] w fun e w' => e = .returned (.tuple #[.string X,.int .i64 0]) /\ Since w w':=by
 simp only [Bool.false_eq_true,if_false,Int.add_zero] at hF
 have hF2:0 <= F /\ F <= 224:=by omega
 obtain ⟨f1,f2⟩:=hF2
 rcases hX with ⟨h1,hX⟩ | ⟨h1,h2,hX⟩ | ⟨h1,hX⟩
 · have K2:=conv_any (n:Int) (bs [UInt8.ofNat n]) rfl
   have hz:(bs [UInt8.ofNat n]).size = 1:=rfl
   generalize bs [UInt8.ofNat n] = N at *
   have hsz:¬ 9223372036854775807 < A.size + N.size:=by omega
   go_enter Tryz.func77,Tryz.ntmps77
   go_wp2_with fail
   refine c1.calls0 ?_
   intro w1 h1
   obtain ⟨q0,q1,q2,q3⟩:=box4 (show Since (w.alloc (.cells #[.int .i64 (c:Int),.int .i64 (t:Int),.bool false,.int .i64 (n:Int)] 111)) w1 from h1)
   have hlt:w.heap.size < w1.heap.size:=by have h9:=Below.size h1; simp at h9; omega
   have H1:Hid (Since w w1):=lH (Since.step ((Since.refl w).alloc _) h1)
   clear h1
   go_wp2_with fail
   go_ret2
   exact ⟨rfl,by first | exact H1.out.alloc _ | exact (H1.out.alloc _).alloc _⟩
 · have c3:Mak 111 #[.int .u64 (n:Int),.int .i64 1] (.string (bs (RefOct.low (n:Int) 1))):=fun w => RefOct.put_mid (n:Int) 1 w (by omega) (by omega) (by decide) (by decide)
   have hz:(bs (RefOct.low (n:Int) 1)).size = 1:=RefOct.low_len _ _
   generalize bs (RefOct.low (n:Int) 1) = N at *
   have hz2:(A ++ ⟨#[129]⟩).size = A.size + 1:=by simp; rfl
   have hsz:¬ 9223372036854775807 < A.size + (⟨#[129]⟩:ByteArray).size:=by rw [show (⟨#[129]⟩:ByteArray).size = 1 from rfl]; omega
   have hsz2:¬ 9223372036854775807 < (A ++ ⟨#[129]⟩).size + N.size:=by omega
   go_enter Tryz.func77,Tryz.ntmps77
   go_wp2_with fail
   refine c1.calls0 ?_
   intro w1 h1
   obtain ⟨q0,q1,q2,q3⟩:=box4 (show Since (w.alloc (.cells #[.int .i64 (c:Int),.int .i64 (t:Int),.bool false,.int .i64 (n:Int)] 111)) w1 from h1)
   have hlt:w.heap.size < w1.heap.size:=by have h9:=Below.size h1; simp at h9; omega
   have H1:Hid (Since w w1):=lH (Since.step ((Since.refl w).alloc _) h1)
   clear h1
   go_wp2_with fail
   refine c3.calls0 ?_
   intro w6 h6
   have H6:Hid (Since w w6):=lH (Since.step (by first | exact H1.out | exact H1.out.alloc _) h6)
   clear h6
   go_wp2_with fail
   go_ret2
   exact ⟨rfl,H6.out⟩
 · have c3:Mak 111 #[.int .u64 (n:Int),.int .i64 2] (.string (bs (RefOct.low (n:Int) 2))):=fun w => RefOct.put_mid (n:Int) 2 w (by omega) (by omega) (by decide) (by decide)
   have hz:(bs (RefOct.low (n:Int) 2)).size = 2:=RefOct.low_len _ _
   generalize bs (RefOct.low (n:Int) 2) = N at *
   have hz2:(A ++ ⟨#[130]⟩).size = A.size + 1:=by simp; rfl
   have hsz:¬ 9223372036854775807 < A.size + (⟨#[130]⟩:ByteArray).size:=by rw [show (⟨#[130]⟩:ByteArray).size = 1 from rfl]; omega
   have hsz2:¬ 9223372036854775807 < (A ++ ⟨#[130]⟩).size + N.size:=by omega
   go_enter Tryz.func77,Tryz.ntmps77
   go_wp2_with fail
   refine c1.calls0 ?_
   intro w1 h1
   obtain ⟨q0,q1,q2,q3⟩:=box4 (show Since (w.alloc (.cells #[.int .i64 (c:Int),.int .i64 (t:Int),.bool false,.int .i64 (n:Int)] 111)) w1 from h1)
   have hlt:w.heap.size < w1.heap.size:=by have h9:=Below.size h1; simp at h9; omega
   have H1:Hid (Since w w1):=lH (Since.step ((Since.refl w).alloc _) h1)
   clear h1
   go_wp2_with fail
   refine c3.calls0 ?_
   intro w6 h6
   have H6:Hid (Since w w6):=lH (Since.step (by first | exact H1.out | exact H1.out.alloc _) h6)
   clear h6
   go_wp2_with fail
   go_ret2
   exact ⟨rfl,H6.out⟩
end RefHead
end Go.Proofs.YtpanhhjkecebkaaGreatDoor
