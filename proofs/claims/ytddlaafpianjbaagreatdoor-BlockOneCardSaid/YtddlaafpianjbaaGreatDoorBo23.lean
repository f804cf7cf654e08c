import Derived.Test.YtddlaafpianjbaaGreatDoorBo22
set_option maxRecDepth 100000
namespace Go.Proofs.YtddlaafpianjbaaGreatDoor
open Go.RowKit
namespace Aes
open Rnd
set_option maxHeartbeats 2000000 in
theorem do_calls (l kk:List UInt8) (hl:l.length = 16) (c:Nat) (last:Bool) (C D E:Array Value) (hC:C = blC l) (hD:D = blC kk) (hE:E = blC (doL last l kk)) (w:World) (hT:TB w c) :
   Calls Tryz.prog 155 #[.pointer (some ⟨c,0,none⟩),.agg C,.agg D,.bool last] w fun e w' => e = .returned (.agg E) /\ Since w w':=by
 obtain ⟨A,hA⟩:∃ A,A = ssL l:=⟨_,rfl⟩
 have HA:=lH hA
 have HT:=lH hT
 have HC:=lH hC
 have HD:=lH hD
 have HLE:=lH hl
 have hEs:E.size = 16:=by rw [hE,blC_size]
 have hE1:E.all (·.oneCell') = true:=by rw [hE]; exact blC_one _
 have iE:(Tryz.prog.info? 159).map (·.size) = some E.size:=by rw [hEs]; exact i16
 have HE:=lH hE
 clear hA hT hC hD hE hl
 have HEs:=lH hEs
 clear hEs
 have HE1:=lH hE1
 clear hE1
 have H_iE:=lH iE
 clear iE
 go_enter Tryz.func155,Tryz.ntmps155
 go_wp2_with fail
 go_loopw [13] (fun i wr => ∃ n:Nat,n <= 16 /\ i = .int .i64 (n:Int) /\ Hid (wr.rowIs (w.heap.size + 3) 159 16 (fun p => if p < n then blV A p else .int .u8 0)) /\ Hid (wr.rowIs w.heap.size 159 16 (blV l)) /\ Hid (wr.heap[w.heap.size + 1]? = some (.cells D 159 (0,0))) /\ Hid (∃ z,z.size = 16 /\ wr.heap[w.heap.size + 2]? = some (.cells z 159 (0,0))) /\ Hid (Since w wr)) (fun i _ => 16 - (intOf i).toNat)
 case atStart =>
   refine ⟨0,by omega,rfl,lH ?_,lH ?_,lH ?_,lH ⟨Z16,by rfl, ?_⟩,lH (((((Since.refl w).alloc _).alloc _).alloc _).alloc _)⟩
   · have h:=zrow (((w.alloc (.cells C 159)).alloc (.cells D 159)).alloc (.cells Z16 159)) 159 Z16 rfl z16
     simp only [World.size_alloc'] at h
     exact h.congr fun j hj => by rw [if_neg (by omega)]
   · refine bl_row (l:=l) ?_
     rw [<- HC.out]
     exact (((Go.heap_alloc_old _ _ (by simp; omega)).trans (Go.heap_alloc_old _ _ (by simp; omega))).trans (Go.heap_alloc_old _ _ (by simp))).trans (Go.heap_alloc_new _ _)
   · refine (Go.heap_alloc_old _ _ (by simp)).trans ((Go.heap_alloc_old _ _ (by simp)).trans ?_)
     have h:=Go.heap_alloc_new (w.alloc (.cells C 159)) (.cells D 159)
     simp only [World.size_alloc'] at h
     exact h
   · refine (Go.heap_alloc_old _ _ (by simp)).trans ?_
     have h:=Go.heap_alloc_new ((w.alloc (.cells C 159)).alloc (.cells D 159)) (.cells Z16 159)
     simp only [World.size_alloc'] at h
     exact h
 case round =>
   obtain ⟨n,hn,rfl,HR,HL,HK,HZ,HS⟩:=hrel
   by_cases hlt:n < 16
   · have hdb:decide ((n:Int) < 16) = true:=decide_eq_true (by omega)
     obtain ⟨q,hq⟩:∃ q,q = 5 * n % 16:=⟨_,rfl⟩
     have hq16:q < 16:=by omega
     have e1:IntKind.i64.wrap (5 * (n:Int)) = 5 * (n:Int):=IntWalk.i64_in _ (by omega)
     have e2:(5 * (n:Int)) % 16 = (q:Int):=by omega
     have e3:(5 * (n:Int)).tmod 16 = (q:Int):=by rw [Int.tmod_eq_emod_of_nonneg (by omega)]; exact e2
     have hcl:=HL.out.cell (i:=q) hq16
     unfold blV at hcl
     have hx:=ss_ent l HLE.out n hlt
     rw [<- HA.out,<- hq] at hx
     have hx1:=ent_lt l q
     obtain ⟨x,hxe⟩:∃ x,x = ent l q:=⟨_,rfl⟩
     rw [<- hxe] at hcl hx1 hx
     have hct:=((HT.out.since HS.out).at 0 x hx1 (by omega))
     rw [Nat.mul_zero,Nat.zero_add,tab_0 x hx1,<- hx] at hct
     have hco:=HR.out.cell (i:=n) hlt
     rw [if_neg (by omega)] at hco
     have hfo:=HR.out.frozen n
     obtain ⟨v,hv⟩:∃ v,v = ent A n:=⟨_,rfl⟩
     rw [<- hv] at hct
     have i1:(0:Int) <= (n:Int):=by omega
     have i2:(n:Int) < 16:=by omega
     have i3:(0:Int) <= (q:Int):=by omega
     have i4:(q:Int) < 16:=by omega
     have i5:(0:Int) <= (x:Int):=by omega
     have i6:(x:Int) < 256:=by omega
     clear hq hxe hx hx1
     have Hv:=lH hv
     clear hv
     go_wp2_with fail
     refine wp_region_still_tail 12 (by kernel_rfl) (by kernel_rfl) ?_
     simp only [List.take_succ_cons,List.take_zero,List.drop_succ_cons,List.drop_zero]
     change wpStill _ _ wr.drew (fun a' => wpList _ _ _ _ a' wr.drew) _ _
     repeat (refine wpStill_step (fun K hK => ?_); go_simp; refine hK _ ?_; clear hK K)
     refine wpStill_nil ?_
     all_goals
       go_wp2_with fail
       go_roundw
       case rel =>
         refine ⟨n + 1,by omega,by go_num,lH ((HR.out.set n _).drew.congr fun p hp => ?_),lH ((HL.out.setOther (by simp; omega) _).drew),lH ((heap_setCell_other _ _ _ _ (by simp)).trans HK.out),lH ?_,lH (Since.drew (Below.setCell (p:=⟨w.heap.size + 3,n,none⟩) HS.out (Nat.le_add_right _ _) _))⟩
         · by_cases h:p = n
           · rw [if_pos h,if_pos (by omega),h,Hv.out]; rfl
           · rw [if_neg h]
             by_cases h3:p < n
             · rw [if_pos h3,if_pos (by omega)]
             · rw [if_neg h3,if_neg (by omega)]
         · obtain ⟨z,hz,hzb⟩:=HZ.out
           exact ⟨z,hz,(heap_setCell_other _ _ _ _ (by simp)).trans hzb⟩
       case measure => simp [intOf]; omega
   · have hdf:decide ((n:Int) < 16) = false:=decide_eq_false (by omega)
     have hb9:=row_bl (l:=A) HR.out (fun j hj => by rw [if_pos (by omega)])
     rcases last with _ | _
     · have hk0:=bl_row (l:=kk) (by rw [<- HD.out]; exact HK.out)
       go_wp2_with fail
       go_loopw [33] (fun i wr => ∃ n:Nat,n <= 16 /\ i = .int .i64 (n:Int) /\ Hid (wr.rowIs (w.heap.size + 1) 159 16 (fun p => if p < n then blV (doL false l kk) p else blV kk p)) /\ Hid (wr.rowIs (w.heap.size + 3) 159 16 (blV A)) /\ Hid (∃ z,z.size = 16 /\ wr.heap[w.heap.size + 2]? = some (.cells z 159 (0,0))) /\ Hid (Since w wr)) (fun i _ => 16 - (intOf i).toNat)
       case atStart => exact ⟨0,by omega,rfl,lH (hk0.congr fun p hp => by rw [if_neg (by omega)]),lH (bl_row hb9),HZ,HS⟩
       case round =>
         clear HR HL HK HZ HS hb9 hk0
         obtain ⟨n,hn,rfl,HR,HB,HZ,HS⟩:=hrel
         by_cases hlt:n < 16
         · have hdb:decide ((n:Int) < 16) = true:=decide_eq_true (by omega)
           obtain ⟨q1,hq1⟩:∃ q,q = 4 * (n / 4) + (n % 4 + 1) % 4:=⟨_,rfl⟩
           obtain ⟨q2,hq2⟩:∃ q,q = 4 * (n / 4) + (n % 4 + 2) % 4:=⟨_,rfl⟩
           obtain ⟨q3,hq3⟩:∃ q,q = 4 * (n / 4) + (n % 4 + 3) % 4:=⟨_,rfl⟩
           have l1:q1 < 16:=by omega
           have l2:q2 < 16:=by omega
           have l3:q3 < 16:=by omega
           have c1:Ret 192 #[.int .i64 (n:Int),.int .i64 1] (.int .i64 (q1:Int)):=below_ret n 1 q1 hlt (by omega) hq1
           have c2:Ret 192 #[.int .i64 (n:Int),.int .i64 2] (.int .i64 (q2:Int)):=below_ret n 2 q2 hlt (by omega) hq2
           have c3:Ret 192 #[.int .i64 (n:Int),.int .i64 3] (.int .i64 (q3:Int)):=below_ret n 3 q3 hlt (by omega) hq3
           have hm:=mix_sum A n
           rw [<- hq1,<- hq2,<- hq3,show 4 * (n / 4) + (n % 4 + 0) % 4 = n from by omega] at hm
           have hr:ent (doL false l kk) n = mixP mixF A n 4 ^^^ ent kk n:=by
             show ent (xorL (mixL mixF (shiftL (subL l))) kk) n = _
             rw [xor_ent _ _ _ hlt,mix_ent _ _ _ hlt,HA.out]; rfl
           rw [hm] at hr
           have g0:=HB.out.cell (i:=n) hlt
           have g1:=HB.out.cell (i:=q1) l1
           have g2:=HB.out.cell (i:=q2) l2
           have g3:=HB.out.cell (i:=q3) l3
           have gk:=HR.out.cell (i:=n) hlt
           rw [if_neg (by omega)] at gk
           have gf:=HR.out.frozen n
           unfold blV at g0 g1 g2 g3 gk
           have b0:=ent_lt A n
           have b1:=ent_lt A q1
           have b2:=ent_lt A q2
           have b3:=ent_lt A q3
           have bk:=ent_lt kk n
           obtain ⟨x0,h0⟩:∃ x,x = ent A n:=⟨_,rfl⟩
           obtain ⟨x1,h1⟩:∃ x,x = ent A q1:=⟨_,rfl⟩
           obtain ⟨x2,h2⟩:∃ x,x = ent A q2:=⟨_,rfl⟩
           obtain ⟨x3,h3⟩:∃ x,x = ent A q3:=⟨_,rfl⟩
           obtain ⟨xk,hk⟩:∃ x,x = ent kk n:=⟨_,rfl⟩
           rw [<- h0,<- h1,<- h2,<- h3,<- hk] at hr
           rw [<- h0] at g0 b0
           rw [<- h1] at g1 b1
           rw [<- h2] at g2 b2
           rw [<- h3] at g3 b3
           rw [<- hk] at gk bk
           have v0:=u8_xor_nat x0 x1 b0 b1
           have by0:x0 ^^^ x1 < 256:=Nat.xor_lt_two_pow (n:=8) b0 b1
           obtain ⟨y,hy⟩:∃ y,y = x0 ^^^ x1:=⟨_,rfl⟩
           rw [<- hy] at v0 by0 hr
           have gt:=((HT.out.since HS.out).at 2 y by0 (by omega))
           rw [show 256 * 2 + y = 512 + y from rfl,tab_2 y by0] at gt
           have bt:=Gf.xt_lt y by0
           obtain ⟨t,ht⟩:∃ t,t = Gf.xt y:=⟨_,rfl⟩
           rw [<- ht] at gt bt hr
           have v1:=u8_xor_nat t x1 bt b1
           have bu1:t ^^^ x1 < 256:=Nat.xor_lt_two_pow (n:=8) bt b1
           obtain ⟨u1,hu1⟩:∃ u,u = t ^^^ x1:=⟨_,rfl⟩
           rw [<- hu1] at v1 bu1 hr
           have v2:=u8_xor_nat u1 x2 bu1 b2
           have bu2:u1 ^^^ x2 < 256:=Nat.xor_lt_two_pow (n:=8) bu1 b2
           obtain ⟨u2,hu2⟩:∃ u,u = u1 ^^^ x2:=⟨_,rfl⟩
           rw [<- hu2] at v2 bu2 hr
           have v3:=u8_xor_nat u2 x3 bu2 b3
           have bu3:u2 ^^^ x3 < 256:=Nat.xor_lt_two_pow (n:=8) bu2 b3
           obtain ⟨u3,hu3⟩:∃ u,u = u2 ^^^ x3:=⟨_,rfl⟩
           rw [<- hu3] at v3 bu3 hr
           have v4:=u8_xor_nat xk u3 bk bu3
           rw [Nat.xor_comm] at v4
           rw [<- hr] at v4
           obtain ⟨v,hv⟩:∃ v,v = ent (doL false l kk) n:=⟨_,rfl⟩
           rw [<- hv] at v4
           have i1:(0:Int) <= (n:Int):=by omega
           have i2:(n:Int) < 16:=by omega
           have i3:(0:Int) <= (q1:Int):=by omega
           have i4:(q1:Int) < 16:=by omega
           have i5:(0:Int) <= (q2:Int):=by omega
           have i6:(q2:Int) < 16:=by omega
           have i7:(0:Int) <= (q3:Int):=by omega
           have i8:(q3:Int) < 16:=by omega
           have i9:(0:Int) <= (y:Int):=by omega
           have i10:(y:Int) < 256:=by omega
           clear hq1 hq2 hq3 h0 h1 h2 h3 hk hy ht hu1 hu2 hu3 hm hr b0 b1 b2 b3 bk bt bu1 bu2 bu3 by0 l1 l2 l3
           have Hv:=lH hv
           clear hv
           go_wp2_with fail
           refine (c1).calls ?_
           go_wp2_with fail
           refine wp_region_still_tail 27 (by kernel_rfl) (by kernel_rfl) ?_
           simp only [List.take_succ_cons,List.take_zero,List.drop_succ_cons,List.drop_zero]
           change wpStill _ _ wr.drew (fun a' => wpList _ _ _ _ a' wr.drew) _ _
           repeat (first
             | (refine wpStill_step (fun K hK => ?_); go_simp; refine hK _ ?_; clear hK K)
             | (refine wpStill_step (fun K hK => ?_); go_simp; refine ⟨.int .i64 (q2:Int),by with_reducible exact Ret.still c2 _,hK _ ?_⟩; clear hK K)
             | (refine wpStill_step (fun K hK => ?_); go_simp; refine ⟨.int .i64 (q3:Int),by with_reducible exact Ret.still c3 _,hK _ ?_⟩; clear hK K))
           refine wpStill_nil ?_
           all_goals
             go_wp2_with fail
             go_roundw
             case rel =>
               refine ⟨n + 1,by omega,by go_num,lH ((HR.out.set n _).drew.congr fun p hp => ?_),lH ((HB.out.setOther (by simp) _).drew),lH ?_,lH (Since.drew (Below.setCell (p:=⟨w.heap.size + 1,n,none⟩) HS.out (Nat.le_add_right _ _) _))⟩
               · by_cases h:p = n
                 · rw [if_pos h,if_pos (by omega),h,Hv.out]; rfl
                 · rw [if_neg h]
                   by_cases h3:p < n
                   · rw [if_pos h3,if_pos (by omega)]
                   · rw [if_neg h3,if_neg (by omega)]
               · obtain ⟨z,hz,hzb⟩:=HZ.out
                 exact ⟨z,hz,(heap_setCell_other _ _ _ _ (by simp)).trans hzb⟩
             case measure => simp [intOf]; omega
         · obtain rfl:n = 16:=by omega
           obtain ⟨z,hz,hzb⟩:=HZ.out
           have hb:=row_bl (l:=doL false l kk) HR.out (fun j hj => by rw [if_pos hj])
           rw [<- HE.out] at hb
           have Hz:=lH hz
           clear hz
           have Hzb:=lH hzb
           clear hzb
           have Hb:=lH hb
           clear hb
           go_wp2_with (first | (refine wpList_load_row rfl 159 _ rfl (w.heap.size + 1) (by rfl) _ E _ _ Hb.out Tryz.underlying159 rfl H_iE.out ?_) | (refine wpList_store_row rfl 159 _ _ rfl (w.heap.size + 2) E (by rfl) (by rfl) _ _ Hzb.out H_iE.out (by rw [HEs.out]; exact Hz.out) HE1.out ?_))
           exact bodyPost_ret (v:=.agg E) (results_cell_row Tryz.results155 _ _ _ _ _ _ _ rfl (setRow_heap _ _ _ _ _ _ Hzb.out) Tryz.underlying159 rfl H_iE.out) rfl ⟨rfl,below_setRow HS.out (Nat.le_add_right _ _) _⟩
     · obtain ⟨z,hz,hzb⟩:=HZ.out
       obtain ⟨F,hF⟩:∃ F,F = blC A:=⟨_,rfl⟩
       have iF:(Tryz.prog.info? 159).map (·.size) = some F.size:=by rw [hF,blC_size]; exact i16
       have iD:(Tryz.prog.info? 159).map (·.size) = some D.size:=by rw [HD.out,blC_size]; exact i16
       have c1:=add_mak A kk F D E hF HD.out (by rw [HE.out,HA.out]; rfl)
       rw [<- hF] at hb9
       clear hF
       have Hb9:=lH hb9
       clear hb9
       have H_iF:=lH iF
       clear iF
       have H_iD:=lH iD
       clear iD
       have Hz:=lH hz
       clear hz
       go_wp2_with (first | (refine wpList_load_row rfl 159 _ rfl (w.heap.size + 3) (by rfl) _ F _ _ Hb9.out Tryz.underlying159 rfl H_iF.out ?_) | (refine wpList_load_row rfl 159 _ rfl (w.heap.size + 1) (by rfl) _ D _ _ HK.out Tryz.underlying159 rfl H_iD.out ?_))
       refine (c1 _).mono ?_
       rintro e w3 ⟨rfl,h3⟩
       have hb3:=(h3.block (w.heap.size + 2) (lt_of_heap hzb)).trans hzb
       have H3:Hid (Since w w3):=lH (Since.step HS.out h3)
       clear h3 hzb
       have Hb3:=lH hb3
       clear hb3
       go_wp2_with (first | (refine wpList_store_row rfl 159 _ _ rfl (w.heap.size + 2) E (by rfl) (by rfl) _ _ Hb3.out H_iE.out (by rw [HEs.out]; exact Hz.out) HE1.out ?_))
       exact bodyPost_ret (v:=.agg E) (results_cell_row Tryz.results155 _ _ _ _ _ _ _ rfl (setRow_heap _ _ _ _ _ _ Hb3.out) Tryz.underlying159 rfl H_iE.out) rfl ⟨rfl,below_setRow H3.out (Nat.le_add_right _ _) _⟩
end Aes
namespace Aes
open Rnd
theorem back_ent (l:List UInt8) (i:Nat) (hi:i < l.length):ent (backL l) i = Sbox.back (ent l i):=by
 unfold ent backL
 simp [List.getD,hi]
 have:=Sbox.back_lt (l[i].toNat)
 omega
theorem ub_ent (Y:List UInt8) (i:Nat) (hi:i < 16):ent (backL (unshiftL Y)) (5 * i % 16) = Sbox.back (ent Y i):=by
 rw [back_ent _ _ (by rw [unshiftL_len]; omega),unshift_ent _ _ (by omega)]
 congr 2
 omega
theorem unmix_sum (A:List UInt8) (i:Nat):mixP unmixF A i 4 = ((Gf.mul (ent A (4 * (i / 4) + (i % 4 + 0) % 4)) 14 ^^^ Gf.mul (ent A (4 * (i / 4) + (i % 4 + 1) % 4)) 11) ^^^ Gf.mul (ent A (4 * (i / 4) + (i % 4 + 2) % 4)) 13) ^^^ Gf.mul (ent A (4 * (i / 4) + (i % 4 + 3) % 4)) 9:=by
 rw [mixP4]; rfl
set_option maxHeartbeats 2000000 in
theorem undo_calls (l kk:List UInt8) (_hl:l.length = 16) (c:Nat) (last:Bool) (C D E:Array Value) (hC:C = blC l) (hD:D = blC kk) (hE:E = blC (undoL last l kk)) (w:World) (hT:TB w c) :
   Calls Tryz.prog 167 #[.pointer (some ⟨c,0,none⟩),.agg C,.agg D,.bool last] w fun e w' => e = .returned (.agg E) /\ Since w w':=by
 obtain ⟨X,hX⟩:∃ X,X = xorL l kk:=⟨_,rfl⟩
 obtain ⟨F,hF⟩:∃ F,F = blC X:=⟨_,rfl⟩
 have c0:=add_mak l kk C D F hC hD (by rw [hF,hX])
 have hCs:C.size = 16:=by rw [hC,blC_size]
 have iC:(Tryz.prog.info? 159).map (·.size) = some C.size:=by rw [hCs]; exact i16
 have iD:(Tryz.prog.info? 159).map (·.size) = some D.size:=by rw [hD,blC_size]; exact i16
 have hFs:F.size = 16:=by rw [hF,blC_size]
 have hF1:F.all (·.oneCell') = true:=by rw [hF]; exact blC_one _
 have iF:(Tryz.prog.info? 159).map (·.size) = some F.size:=by rw [hFs]; exact i16
 have HX:=lH hX
 have HF:=lH hF
 have HT:=lH hT
 have hEs:E.size = 16:=by rw [hE,blC_size]
 have hE1:E.all (·.oneCell') = true:=by rw [hE]; exact blC_one _
 have iE:(Tryz.prog.info? 159).map (·.size) = some E.size:=by rw [hEs]; exact i16
 have HE:=lH hE
 have hb5:(((w.alloc (.cells C 159)).alloc (.cells D 159)).alloc (.cells Z16 159)).heap[w.heap.size]? = some (.cells C 159 (0,0)):=((Go.heap_alloc_old _ _ (by simp; omega)).trans (Go.heap_alloc_old _ _ (by simp))).trans (Go.heap_alloc_new _ _)
 have hb6:(((w.alloc (.cells C 159)).alloc (.cells D 159)).alloc (.cells Z16 159)).heap[w.heap.size + 1]? = some (.cells D 159 (0,0)):=by
   refine (Go.heap_alloc_old _ _ (by simp)).trans ?_
   have h:=Go.heap_alloc_new (w.alloc (.cells C 159)) (.cells D 159)
   simp only [World.size_alloc'] at h
   exact h
 have hb8:(((w.alloc (.cells C 159)).alloc (.cells D 159)).alloc (.cells Z16 159)).heap[w.heap.size + 2]? = some (.cells Z16 159 (0,0)):=by
   have h:=Go.heap_alloc_new ((w.alloc (.cells C 159)).alloc (.cells D 159)) (.cells Z16 159)
   simp only [World.size_alloc'] at h
   exact h
 have hs0:Since w (((w.alloc (.cells C 159)).alloc (.cells D 159)).alloc (.cells Z16 159)):=(((Since.refl w).alloc _).alloc _).alloc _
 clear hX hF hT hC hD hE
 have HEs:=lH hEs
 clear hEs
 have HE1:=lH hE1
 clear hE1
 have H_iE:=lH iE
 clear iE
 have HCs:=lH hCs
 clear hCs
 have H_iC:=lH iC
 clear iC
 have H_iD:=lH iD
 clear iD
 have HFs:=lH hFs
 clear hFs
 have HF1:=lH hF1
 clear hF1
 have H_iF:=lH iF
 clear iF
 have Hb5:=lH hb5
 clear hb5
 have Hb6:=lH hb6
 clear hb6
 have Hb8:=lH hb8
 clear hb8
 have Hs0:=lH hs0
 clear hs0
 go_enter Tryz.func167,Tryz.ntmps167
 go_wp2_with (first | (refine wpList_load_row rfl 159 _ rfl w.heap.size (by rfl) _ C _ _ Hb5.out Tryz.underlying159 rfl H_iC.out ?_) | (refine wpList_load_row rfl 159 _ rfl (w.heap.size + 1) (by rfl) _ D _ _ Hb6.out Tryz.underlying159 rfl H_iD.out ?_))
 refine (c0 _).mono ?_
 rintro e w3 ⟨rfl,h3⟩
 have g5:=(h3.block w.heap.size (lt_of_heap Hb5.out)).trans Hb5.out
 have g8:=(h3.block (w.heap.size + 2) (lt_of_heap Hb8.out)).trans Hb8.out
 have H3:Hid (Since w w3):=lH (Since.step Hs0.out h3)
 clear h3 Hb5 Hb6 Hb8 Hs0 c0
 have g5':=setRow_heap w3 w.heap.size C F 159 (0,0) g5
 obtain ⟨G,hG⟩:∃ G,G = w3.heap.size:=⟨_,rfl⟩
 have hG2:w.heap.size + 2 < G:=by rw [hG]; exact lt_of_heap g8
 have HW3:Hid (w.heap.size + 2 < w3.heap.size):=lH (lt_of_heap g8)
 have hnew:((w3.setRow w.heap.size F).alloc (.cells Z16 159)).heap[w3.heap.size]? = some (.cells Z16 159 (0,0)):=by
   have h:=Go.heap_alloc_new (w3.setRow w.heap.size F) (.cells Z16 159)
   rwa [setRow_size] at h
 have hset:((w3.setRow w.heap.size F).alloc (.cells Z16 159)).setRow w3.heap.size F = (w3.setRow w.heap.size F).alloc (.cells F 159):=by
   have h:=World.setRow_alloc_new (w3.setRow w.heap.size F) Z16 F 159
   rwa [setRow_size] at h
 have r5:((w3.setRow w.heap.size F).alloc (.cells F 159)).heap[w.heap.size]? = some (.cells F 159 (0,0)):=(Go.heap_alloc_old _ _ (by rw [setRow_size]; omega)).trans g5'
 have r9:((w3.setRow w.heap.size F).alloc (.cells F 159)).heap[G]? = some (.cells F 159 (0,0)):=by
   have h:=Go.heap_alloc_new (w3.setRow w.heap.size F) (.cells F 159)
   rwa [setRow_size,<- hG] at h
 have r8:((w3.setRow w.heap.size F).alloc (.cells F 159)).heap[w.heap.size + 2]? = some (.cells Z16 159 (0,0)):=(Go.heap_alloc_old _ _ (by rw [setRow_size]; omega)).trans ((setRow_other _ _ _ _ (by omega)).trans g8)
 have hs:Since w ((w3.setRow w.heap.size F).alloc (.cells F 159)):=Since.alloc (below_setRow H3.out (Nat.le_refl _) _) _
 unfold Z16 at hset hnew
 have H_g5:=lH g5
 clear g5
 have H_g8:=lH g8
 clear g8
 have H_g5':=lH g5'
 clear g5'
 have Hnew:=lH hnew
 clear hnew
 have Hset:=lH hset
 clear hset
 have H_r5:=lH r5
 clear r5
 have H_r9:=lH r9
 clear r9
 have H_r8:=lH r8
 clear r8
 have Hs:=lH hs
 clear hs
 rcases last with _ | _
 · have K1:Hid (World.rowIs ((w3.setRow w.heap.size F).alloc (.cells F 159)) w3.heap.size 159 16 (fun p => if p < 0 then blV (mixL unmixF X) p else blV X p)):=lH ((bl_row (l:=X) (by rw [<- HF.out,<- hG]; exact H_r9.out)).congr fun p hp => by rw [if_neg (by omega)])
   have K2:Hid (World.rowIs ((w3.setRow w.heap.size F).alloc (.cells F 159)) w.heap.size 159 16 (blV X)):=lH (bl_row (by rw [<- HF.out]; exact H_r5.out))
   have K3:Hid (∃ z,z.size = 16 /\ ((w3.setRow w.heap.size F).alloc (.cells F 159)).heap[w.heap.size + 2]? = some (.cells z 159 (0,0))):=lH ⟨Z16,rfl,H_r8.out⟩
   have HEE:Hid (E = blC (backL (unshiftL (mixL unmixF X)))):=lH (by rw [HE.out,HX.out]; rfl)
   go_wp2_with (first
     | (refine wpList_store_row rfl 159 _ _ rfl w.heap.size F (by rfl) (by rfl) _ _ H_g5.out H_iF.out (by rw [HCs.out,HFs.out]) HF1.out ?_)
     | (refine wpList_load_row rfl 159 _ rfl w.heap.size (by rfl) _ F _ _ H_g5'.out Tryz.underlying159 rfl H_iF.out ?_)
     | (refine wpList_store_row rfl 159 _ _ rfl w3.heap.size F (by rfl) (by rfl) _ _ Hnew.out H_iF.out (by rw [HFs.out]; rfl) HF1.out ?_; rw [Hset.out]))
   go_loopw [19] (fun i wr => ∃ n:Nat,n <= 16 /\ i = .int .i64 (n:Int) /\ Hid (wr.rowIs w3.heap.size 159 16 (fun p => if p < n then blV (mixL unmixF X) p else blV X p)) /\ Hid (wr.rowIs w.heap.size 159 16 (blV X)) /\ Hid (∃ z,z.size = 16 /\ wr.heap[w.heap.size + 2]? = some (.cells z 159 (0,0))) /\ Hid (Since w wr)) (fun i _ => 16 - (intOf i).toNat)
   case atStart => exact ⟨0,by omega,rfl,K1,K2,K3,Hs⟩
   case round =>
     clear K1 K2 K3 Hs
     obtain ⟨n,hn,rfl,HR,HB,HZ,HS⟩:=hrel
     by_cases hlt:n < 16
     · have hdb:decide ((n:Int) < 16) = true:=decide_eq_true (by omega)
       obtain ⟨q1,hq1⟩:∃ q,q = 4 * (n / 4) + (n % 4 + 1) % 4:=⟨_,rfl⟩
       obtain ⟨q2,hq2⟩:∃ q,q = 4 * (n / 4) + (n % 4 + 2) % 4:=⟨_,rfl⟩
       obtain ⟨q3,hq3⟩:∃ q,q = 4 * (n / 4) + (n % 4 + 3) % 4:=⟨_,rfl⟩
       have l1:q1 < 16:=by omega
       have l2:q2 < 16:=by omega
       have l3:q3 < 16:=by omega
       have c1:Ret 192 #[.int .i64 (n:Int),.int .i64 1] (.int .i64 (q1:Int)):=below_ret n 1 q1 hlt (by omega) hq1
       have c2:Ret 192 #[.int .i64 (n:Int),.int .i64 2] (.int .i64 (q2:Int)):=below_ret n 2 q2 hlt (by omega) hq2
       have c3:Ret 192 #[.int .i64 (n:Int),.int .i64 3] (.int .i64 (q3:Int)):=below_ret n 3 q3 hlt (by omega) hq3
       have hm:=unmix_sum X n
       rw [<- hq1,<- hq2,<- hq3,show 4 * (n / 4) + (n % 4 + 0) % 4 = n from by omega,<- mix_ent _ _ _ hlt] at hm
       have g0:=HB.out.cell (i:=n) hlt
       have g1:=HB.out.cell (i:=q1) l1
       have g2:=HB.out.cell (i:=q2) l2
       have g3:=HB.out.cell (i:=q3) l3
       obtain ⟨o,gk⟩:∃ o,wr.cell? ⟨w3.heap.size,n,none⟩ = some o:=⟨_,HR.out.cell (i:=n) hlt⟩
       have gf:=HR.out.frozen n
       unfold blV at g0 g1 g2 g3
       have b0:=ent_lt X n
       have b1:=ent_lt X q1
       have b2:=ent_lt X q2
       have b3:=ent_lt X q3
       obtain ⟨x0,h0⟩:∃ x,x = ent X n:=⟨_,rfl⟩
       obtain ⟨x1,h1⟩:∃ x,x = ent X q1:=⟨_,rfl⟩
       obtain ⟨x2,h2⟩:∃ x,x = ent X q2:=⟨_,rfl⟩
       obtain ⟨x3,h3⟩:∃ x,x = ent X q3:=⟨_,rfl⟩
       rw [<- h0,<- h1,<- h2,<- h3] at hm
       rw [<- h0] at g0 b0
       rw [<- h1] at g1 b1
       rw [<- h2] at g2 b2
       rw [<- h3] at g3 b3
       have t0:=((HT.out.since HS.out).at 6 x0 b0 (by omega))
       rw [show 256 * 6 + x0 = 1536 + x0 from rfl,tab_6 x0 b0] at t0
       have t1:=((HT.out.since HS.out).at 4 x1 b1 (by omega))
       rw [show 256 * 4 + x1 = 1024 + x1 from rfl,tab_4 x1 b1] at t1
       have t2:=((HT.out.since HS.out).at 5 x2 b2 (by omega))
       rw [show 256 * 5 + x2 = 1280 + x2 from rfl,tab_5 x2 b2] at t2
       have t3:=((HT.out.since HS.out).at 3 x3 b3 (by omega))
       rw [show 256 * 3 + x3 = 768 + x3 from rfl,tab_3 x3 b3] at t3
       have m0:=Gf.mul_lt x0 14 b0
       have m1:=Gf.mul_lt x1 11 b1
       have m2:=Gf.mul_lt x2 13 b2
       have m3:=Gf.mul_lt x3 9 b3
       obtain ⟨y0,hy0⟩:∃ y,y = Gf.mul x0 14:=⟨_,rfl⟩
       obtain ⟨y1,hy1⟩:∃ y,y = Gf.mul x1 11:=⟨_,rfl⟩
       obtain ⟨y2,hy2⟩:∃ y,y = Gf.mul x2 13:=⟨_,rfl⟩
       obtain ⟨y3,hy3⟩:∃ y,y = Gf.mul x3 9:=⟨_,rfl⟩
       rw [<- hy0,<- hy1,<- hy2,<- hy3] at hm
       rw [<- hy0] at t0 m0
       rw [<- hy1] at t1 m1
       rw [<- hy2] at t2 m2
       rw [<- hy3] at t3 m3
       have v1:=u8_xor_nat y0 y1 m0 m1
       have n1:y0 ^^^ y1 < 256:=Nat.xor_lt_two_pow (n:=8) m0 m1
       obtain ⟨z1,hz1⟩:∃ z,z = y0 ^^^ y1:=⟨_,rfl⟩
       rw [<- hz1] at v1 n1 hm
       have v2:=u8_xor_nat z1 y2 n1 m2
       have n2:z1 ^^^ y2 < 256:=Nat.xor_lt_two_pow (n:=8) n1 m2
       obtain ⟨z2,hz2⟩:∃ z,z = z1 ^^^ y2:=⟨_,rfl⟩
       rw [<- hz2] at v2 n2 hm
       have v3:=u8_xor_nat z2 y3 n2 m3
       rw [<- hm] at v3
       obtain ⟨v,hv⟩:∃ v,v = ent (mixL unmixF X) n:=⟨_,rfl⟩
       rw [<- hv] at v3
       have i1:(0:Int) <= (n:Int):=by omega
       have i2:(n:Int) < 16:=by omega
       have i3:(0:Int) <= (q1:Int):=by omega
       have i4:(q1:Int) < 16:=by omega
       have i5:(0:Int) <= (q2:Int):=by omega
       have i6:(q2:Int) < 16:=by omega
       have i7:(0:Int) <= (q3:Int):=by omega
       have i8:(q3:Int) < 16:=by omega
       have j0:(0:Int) <= (x0:Int) /\ (x0:Int) < 256:=by omega
       have j1:(0:Int) <= (x1:Int) /\ (x1:Int) < 256:=by omega
       have j2:(0:Int) <= (x2:Int) /\ (x2:Int) < 256:=by omega
       have j3:(0:Int) <= (x3:Int) /\ (x3:Int) < 256:=by omega
       obtain ⟨ja,jb⟩:=j0
       obtain ⟨jc,jd⟩:=j1
       obtain ⟨je,jf⟩:=j2
       obtain ⟨jg,jh⟩:=j3
       clear hq1 hq2 hq3 h0 h1 h2 h3 hy0 hy1 hy2 hy3 hz1 hz2 hm b0 b1 b2 b3 m0 m1 m2 m3 n1 n2 l1 l2 l3
       have Hv:=lH hv
       clear hv
       go_wp2_with fail
       refine wp_region_still_tail 40 (by kernel_rfl) (by kernel_rfl) ?_
       simp only [List.take_succ_cons,List.take_zero,List.drop_succ_cons,List.drop_zero]
       change wpStill _ _ wr.drew (fun a' => wpList _ _ _ _ a' wr.drew) _ _
       repeat (first
         | (refine wpStill_step (fun K hK => ?_); go_simp; refine hK _ ?_; clear hK K)
         | (refine wpStill_step (fun K hK => ?_); go_simp; refine ⟨.int .i64 (q1:Int),by with_reducible exact Ret.still c1 _,hK _ ?_⟩; clear hK K)
         | (refine wpStill_step (fun K hK => ?_); go_simp; refine ⟨.int .i64 (q2:Int),by with_reducible exact Ret.still c2 _,hK _ ?_⟩; clear hK K)
         | (refine wpStill_step (fun K hK => ?_); go_simp; refine ⟨.int .i64 (q3:Int),by with_reducible exact Ret.still c3 _,hK _ ?_⟩; clear hK K))
       refine wpStill_nil ?_
       all_goals
         go_wp2_with fail
         go_roundw
         case rel =>
           refine ⟨n + 1,by omega,by go_num,lH ((HR.out.set n _).drew.congr fun p hp => ?_),lH ((HB.out.setOther (by have:=HW3.out; show w.heap.size ≠ w3.heap.size; omega) _).drew),lH ?_,lH (Since.drew (Below.setCell (p:=⟨w3.heap.size,n,none⟩) HS.out (by have:=HW3.out; show w.heap.size <= w3.heap.size; omega) _))⟩
           · by_cases h:p = n
             · rw [if_pos h,if_pos (by omega),h,Hv.out]; rfl
             · rw [if_neg h]
               by_cases h3:p < n
               · rw [if_pos h3,if_pos (by omega)]
               · rw [if_neg h3,if_neg (by omega)]
           · obtain ⟨z,hz,hzb⟩:=HZ.out
             exact ⟨z,hz,(heap_setCell_other _ _ _ _ (by have:=HW3.out; show w.heap.size + 2 ≠ w3.heap.size; omega)).trans hzb⟩
         case measure => simp [intOf]; omega
     · obtain ⟨w4,hw4⟩:∃ w4,w4 = wr:=⟨_,rfl⟩
       subst hw4
       have hdf:decide ((n:Int) < 16) = false:=decide_eq_false (by omega)
       have hg3:=HR.out.lt
       have HG3:Hid (w3.heap.size < w4.heap.size):=lH hg3
       have k1:=zrow w4 159 Z16 rfl z16
       have K1:Hid ((w4.alloc (.cells Z16 159)).rowIs w4.heap.size 159 16 (fun p => if 13 * p % 16 < 0 then blV (backL (unshiftL (mixL unmixF X))) p else .int .u8 0)):=lH (k1.congr fun p hp => by rw [if_neg (by omega)])
       have K2:Hid ((w4.alloc (.cells Z16 159)).rowIs w3.heap.size 159 16 (blV (mixL unmixF X))):=lH ((HR.out.congr fun p hp => by rw [if_pos (by omega)]).alloc _)
       have K3:Hid (∃ z,z.size = 16 /\ (w4.alloc (.cells Z16 159)).heap[w.heap.size + 2]? = some (.cells z 159 (0,0))):=by
         obtain ⟨z,hz,hzb⟩:=HZ.out
         exact lH ⟨z,hz,(Go.heap_alloc_old _ _ (lt_of_heap hzb)).trans hzb⟩
       have K4:Hid (Since w (w4.alloc (.cells Z16 159))):=lH (Since.alloc HS.out _)
       clear k1 hg3 HR HB HZ HS
       go_wp2_with fail
       go_loopw [63] (fun i wr => ∃ n:Nat,n <= 16 /\ i = .int .i64 (n:Int) /\ Hid (wr.rowIs (w4.heap.size) 159 16 (fun p => if 13 * p % 16 < n then blV (backL (unshiftL (mixL unmixF X))) p else .int .u8 0)) /\ Hid (wr.rowIs w3.heap.size 159 16 (blV (mixL unmixF X))) /\ Hid (∃ z,z.size = 16 /\ wr.heap[w.heap.size + 2]? = some (.cells z 159 (0,0))) /\ Hid (Since w wr)) (fun i _ => 16 - (intOf i).toNat)
       case atStart => exact ⟨0,by omega,rfl,K1,K2,K3,K4⟩
       case round =>
         clear K1 K2 K3 K4
         obtain ⟨n,hn,rfl,HR,HB,HZ,HS⟩:=hrel
         by_cases hlt:n < 16
         · have hdb:decide ((n:Int) < 16) = true:=decide_eq_true (by omega)
           obtain ⟨q,hq⟩:∃ q,q = 5 * n % 16:=⟨_,rfl⟩
           have hq16:q < 16:=by omega
           have e1:IntKind.i64.wrap (5 * (n:Int)) = 5 * (n:Int):=IntWalk.i64_in _ (by omega)
           have e2:(5 * (n:Int)) % 16 = (q:Int):=by omega
           have e3:(5 * (n:Int)).tmod 16 = (q:Int):=by rw [Int.tmod_eq_emod_of_nonneg (by omega)]; exact e2
           have hcl:=HB.out.cell (i:=n) hlt
           unfold blV at hcl
           have hx:=ub_ent (mixL unmixF X) n hlt
           rw [<- hq] at hx
           have hx1:=ent_lt (mixL unmixF X) n
           obtain ⟨x,hxe⟩:∃ x,x = ent (mixL unmixF X) n:=⟨_,rfl⟩
           rw [<- hxe] at hcl hx1 hx
           have hct:=((HT.out.since HS.out).at 1 x hx1 (by omega))
           rw [show 256 * 1 + x = 256 + x from rfl,tab_1 x hx1,<- hx] at hct
           obtain ⟨o,hco⟩:∃ o,wr.cell? ⟨w4.heap.size,q,none⟩ = some o:=⟨_,HR.out.cell (i:=q) hq16⟩
           have hfo:=HR.out.frozen q
           obtain ⟨v,hv⟩:∃ v,v = ent (backL (unshiftL (mixL unmixF X))) q:=⟨_,rfl⟩
           rw [<- hv] at hct
           have i1:(0:Int) <= (n:Int):=by omega
           have i2:(n:Int) < 16:=by omega
           have i3:(0:Int) <= (q:Int):=by omega
           have i4:(q:Int) < 16:=by omega
           have i5:(0:Int) <= (x:Int):=by omega
           have i6:(x:Int) < 256:=by omega
           clear hxe hx hx1
           have Hv:=lH hv
           clear hv
           have Hq:=lH hq
           clear hq
           go_wp2_with fail
           refine wp_region_still_tail 12 (by kernel_rfl) (by kernel_rfl) ?_
           simp only [List.take_succ_cons,List.take_zero,List.drop_succ_cons,List.drop_zero]
           change wpStill _ _ wr.drew (fun a' => wpList _ _ _ _ a' wr.drew) _ _
           repeat (refine wpStill_step (fun K hK => ?_); go_simp; refine hK _ ?_; clear hK K)
           refine wpStill_nil ?_
           all_goals
             go_wp2_with fail
             go_roundw
             case rel =>
               refine ⟨n + 1,by omega,by go_num,lH ((HR.out.set q _).drew.congr fun p hp => ?_),lH ((HB.out.setOther (by have:=HW3.out; (try have:=HG3.out); show w3.heap.size ≠ w4.heap.size; omega) _).drew),lH ?_,lH (Since.drew (Below.setCell (p:=⟨w4.heap.size,q,none⟩) HS.out (by have:=HW3.out; (try have:=HG3.out); show w.heap.size <= w4.heap.size; omega) _))⟩
               · have hqq:=Hq.out
                 by_cases h:p = q
                 · rw [if_pos h,if_pos (by omega),h,Hv.out]; rfl
                 · rw [if_neg h]
                   by_cases h3:13 * p % 16 < n
                   · rw [if_pos h3,if_pos (by omega)]
                   · rw [if_neg h3,if_neg (by omega)]
               · obtain ⟨z,hz,hzb⟩:=HZ.out
                 exact ⟨z,hz,(heap_setCell_other _ _ _ _ (by have:=HW3.out; (try have:=HG3.out); show w.heap.size + 2 ≠ w4.heap.size; omega)).trans hzb⟩
             case measure => simp [intOf]; omega
         · have hdf:decide ((n:Int) < 16) = false:=decide_eq_false (by omega)
           obtain ⟨z,hz,hzb⟩:=HZ.out
           have hb:=row_bl (l:=backL (unshiftL (mixL unmixF X))) HR.out (fun j hj => by rw [if_pos (by omega)])
           rw [<- HEE.out] at hb
           have Hz:=lH hz
           clear hz
           have Hzb:=lH hzb
           clear hzb
           have Hb:=lH hb
           clear hb
           go_wp2_with (first | (refine wpList_load_row rfl 159 _ rfl (w4.heap.size) (by rfl) _ E _ _ Hb.out Tryz.underlying159 rfl H_iE.out ?_) | (refine wpList_store_row rfl 159 _ _ rfl (w.heap.size + 2) E (by rfl) (by rfl) _ _ Hzb.out H_iE.out (by rw [HEs.out]; exact Hz.out) HE1.out ?_))
           exact bodyPost_ret (v:=.agg E) (results_cell_row Tryz.results167 _ _ _ _ _ _ _ rfl (setRow_heap _ _ _ _ _ _ Hzb.out) Tryz.underlying159 rfl H_iE.out) rfl ⟨rfl,below_setRow HS.out (Nat.le_add_right _ _) _⟩
 · have hsz:((w3.setRow w.heap.size F).alloc (.cells F 159)).heap.size = w3.heap.size + 1:=by rw [World.size_alloc',setRow_size]
   have k1:=zrow ((w3.setRow w.heap.size F).alloc (.cells F 159)) 159 Z16 rfl z16
   rw [hsz] at k1
   have K1:Hid (World.rowIs (((w3.setRow w.heap.size F).alloc (.cells F 159)).alloc (.cells Z16 159)) (w3.heap.size + 1) 159 16 (fun p => if 13 * p % 16 < 0 then blV (backL (unshiftL X)) p else .int .u8 0)):=lH (k1.congr fun p hp => by rw [if_neg (by omega)])
   have K2:Hid (World.rowIs (((w3.setRow w.heap.size F).alloc (.cells F 159)).alloc (.cells Z16 159)) w3.heap.size 159 16 (blV X)):=lH (World.rowIs.alloc (bl_row (by rw [<- HF.out,<- hG]; exact H_r9.out)) _)
   have K3:Hid (∃ z,z.size = 16 /\ (((w3.setRow w.heap.size F).alloc (.cells F 159)).alloc (.cells Z16 159)).heap[w.heap.size + 2]? = some (.cells z 159 (0,0))):=lH ⟨Z16,rfl,(Go.heap_alloc_old _ _ (lt_of_heap H_r8.out)).trans H_r8.out⟩
   have K4:Hid (Since w (((w3.setRow w.heap.size F).alloc (.cells F 159)).alloc (.cells Z16 159))):=lH (Since.alloc Hs.out _)
   have HEE:Hid (E = blC (backL (unshiftL X))):=lH (by rw [HE.out,HX.out]; rfl)
   clear k1 hsz
   go_wp2_with (first
     | (refine wpList_store_row rfl 159 _ _ rfl w.heap.size F (by rfl) (by rfl) _ _ H_g5.out H_iF.out (by rw [HCs.out,HFs.out]) HF1.out ?_)
     | (refine wpList_load_row rfl 159 _ rfl w.heap.size (by rfl) _ F _ _ H_g5'.out Tryz.underlying159 rfl H_iF.out ?_)
     | (refine wpList_store_row rfl 159 _ _ rfl w3.heap.size F (by rfl) (by rfl) _ _ Hnew.out H_iF.out (by rw [HFs.out]; rfl) HF1.out ?_; rw [Hset.out]))
   go_loopw [63] (fun i wr => ∃ n:Nat,n <= 16 /\ i = .int .i64 (n:Int) /\ Hid (wr.rowIs (w3.heap.size + 1) 159 16 (fun p => if 13 * p % 16 < n then blV (backL (unshiftL X)) p else .int .u8 0)) /\ Hid (wr.rowIs w3.heap.size 159 16 (blV X)) /\ Hid (∃ z,z.size = 16 /\ wr.heap[w.heap.size + 2]? = some (.cells z 159 (0,0))) /\ Hid (Since w wr)) (fun i _ => 16 - (intOf i).toNat)
   case atStart => exact ⟨0,by omega,rfl,K1,K2,K3,K4⟩
   case round =>
     clear K1 K2 K3 K4
     obtain ⟨n,hn,rfl,HR,HB,HZ,HS⟩:=hrel
     by_cases hlt:n < 16
     · have hdb:decide ((n:Int) < 16) = true:=decide_eq_true (by omega)
       obtain ⟨q,hq⟩:∃ q,q = 5 * n % 16:=⟨_,rfl⟩
       have hq16:q < 16:=by omega
       have e1:IntKind.i64.wrap (5 * (n:Int)) = 5 * (n:Int):=IntWalk.i64_in _ (by omega)
       have e2:(5 * (n:Int)) % 16 = (q:Int):=by omega
       have e3:(5 * (n:Int)).tmod 16 = (q:Int):=by rw [Int.tmod_eq_emod_of_nonneg (by omega)]; exact e2
       have hcl:=HB.out.cell (i:=n) hlt
       unfold blV at hcl
       have hx:=ub_ent X n hlt
       rw [<- hq] at hx
       have hx1:=ent_lt X n
       obtain ⟨x,hxe⟩:∃ x,x = ent X n:=⟨_,rfl⟩
       rw [<- hxe] at hcl hx1 hx
       have hct:=((HT.out.since HS.out).at 1 x hx1 (by omega))
       rw [show 256 * 1 + x = 256 + x from rfl,tab_1 x hx1,<- hx] at hct
       obtain ⟨o,hco⟩:∃ o,wr.cell? ⟨w3.heap.size + 1,q,none⟩ = some o:=⟨_,HR.out.cell (i:=q) hq16⟩
       have hfo:=HR.out.frozen q
       obtain ⟨v,hv⟩:∃ v,v = ent (backL (unshiftL X)) q:=⟨_,rfl⟩
       rw [<- hv] at hct
       have i1:(0:Int) <= (n:Int):=by omega
       have i2:(n:Int) < 16:=by omega
       have i3:(0:Int) <= (q:Int):=by omega
       have i4:(q:Int) < 16:=by omega
       have i5:(0:Int) <= (x:Int):=by omega
       have i6:(x:Int) < 256:=by omega
       clear hxe hx hx1
       have Hv:=lH hv
       clear hv
       have Hq:=lH hq
       clear hq
       go_wp2_with fail
       refine wp_region_still_tail 12 (by kernel_rfl) (by kernel_rfl) ?_
       simp only [List.take_succ_cons,List.take_zero,List.drop_succ_cons,List.drop_zero]
       change wpStill _ _ wr.drew (fun a' => wpList _ _ _ _ a' wr.drew) _ _
       repeat (refine wpStill_step (fun K hK => ?_); go_simp; refine hK _ ?_; clear hK K)
       refine wpStill_nil ?_
       all_goals
         go_wp2_with fail
         go_roundw
         case rel =>
           refine ⟨n + 1,by omega,by go_num,lH ((HR.out.set q _).drew.congr fun p hp => ?_),lH ((HB.out.setOther (by have:=HW3.out; (try have:=HG3.out); show w3.heap.size ≠ w3.heap.size + 1; omega) _).drew),lH ?_,lH (Since.drew (Below.setCell (p:=⟨w3.heap.size + 1,q,none⟩) HS.out (by have:=HW3.out; (try have:=HG3.out); show w.heap.size <= w3.heap.size + 1; omega) _))⟩
           · have hqq:=Hq.out
             by_cases h:p = q
             · rw [if_pos h,if_pos (by omega),h,Hv.out]; rfl
             · rw [if_neg h]
               by_cases h3:13 * p % 16 < n
               · rw [if_pos h3,if_pos (by omega)]
               · rw [if_neg h3,if_neg (by omega)]
           · obtain ⟨z,hz,hzb⟩:=HZ.out
             exact ⟨z,hz,(heap_setCell_other _ _ _ _ (by have:=HW3.out; (try have:=HG3.out); show w.heap.size + 2 ≠ w3.heap.size + 1; omega)).trans hzb⟩
         case measure => simp [intOf]; omega
     · have hdf:decide ((n:Int) < 16) = false:=decide_eq_false (by omega)
       obtain ⟨z,hz,hzb⟩:=HZ.out
       have hb:=row_bl (l:=backL (unshiftL X)) HR.out (fun j hj => by rw [if_pos (by omega)])
       rw [<- HEE.out] at hb
       have Hz:=lH hz
       clear hz
       have Hzb:=lH hzb
       clear hzb
       have Hb:=lH hb
       clear hb
       go_wp2_with (first | (refine wpList_load_row rfl 159 _ rfl (w3.heap.size + 1) (by rfl) _ E _ _ Hb.out Tryz.underlying159 rfl H_iE.out ?_) | (refine wpList_store_row rfl 159 _ _ rfl (w.heap.size + 2) E (by rfl) (by rfl) _ _ Hzb.out H_iE.out (by rw [HEs.out]; exact Hz.out) HE1.out ?_))
       exact bodyPost_ret (v:=.agg E) (results_cell_row Tryz.results167 _ _ _ _ _ _ _ rfl (setRow_heap _ _ _ _ _ _ Hzb.out) Tryz.underlying159 rfl H_iE.out) rfl ⟨rfl,below_setRow HS.out (Nat.le_add_right _ _) _⟩
end Aes
end Go.Proofs.YtddlaafpianjbaaGreatDoor
