import Derived.Test.YtcdjfmlanicjlaaGreatDoorSl52
set_option maxRecDepth 100000
namespace Go.Proofs.YtcdjfmlanicjlaaGreatDoor
open Go.RowKit
namespace Rcd
open Att Kind Rec Atf Rw Flt Tlv
theorem one_i:(Tryz.prog.info? 3).map (·.size) = some 1:=by kernel_rfl
theorem one_s:(Tryz.prog.info? 9).map (·.size) = some 1:=by kernel_rfl
theorem one_a:(Tryz.prog.info? 56).map (·.size) = some 1:=by kernel_rfl
theorem stillR {f:Nat} {args:Array Value} {v:Value} (h:Ret f args v) (w:World):Calls Tryz.prog f args w fun e w' => e = .returned v /\ w' = w:=(h w).mono fun _ _ ⟨he,hw⟩ => ⟨he,hw.symm⟩
def WS (WL:List ByteArray) (w1 wr:World) (g j:Nat):Prop:=∃ (K:Int) (k:ByteArray) (L:List A2) (u m v e:ByteArray) (V:Value),rcandW ((WL.map (fun z:ByteArray => z.data.toList)).take j) = (K,k,L,(u,m,v,e)) /\ (k.size <= 40000 /\ u.size <= 20000 /\ m.size <= 20000 /\ v.size <= 20000 /\ e.size <= 20000 /\ L.length <= j) /\ PS w1 wr g K k L u m v e V []
set_option maxHeartbeats 32000000 in
theorem rparse_mk (t:ByteArray) (hm:t.size <= 40000) (R:Cd) (C:Int) (hRC:parV t = (R,C)):ParR 31 t R C:=by
 have HM:=lH hm
 have HRC:=lH hRC
 intro w hT
 have HT:=lH hT
 have c1:∀ w,Calls Tryz.prog 49 #[.string t,.int .u8 32] w fun e w' => ∃ v L,e = .returned v /\ SRow w w' v L /\ L.map (·.data.toList) = Sp.pcs 32 t.data.toList /\ (∀ x ∈ L,x.size <= t.size) /\ Since w w':=fun w => parted_mk t 32 (by omega) w
 have hr:Hid (HR w w.heap.size Z7 60 (w.alloc (.cells Z7 60))):=lH ⟨heap_alloc_new w _⟩
 have HS:=lH ((Since.refl w).alloc (.cells Z7 60))
 clear hT hRC hm
 unfold Z7 at hr HS
 go_enter Tryz.func31,Tryz.ntmps31
 go_wp2_with fail
 refine (c1 _).mono ?_
 rintro _ w1 ⟨V0,WL,rfl,hv,hL,hzz,h1⟩
 obtain ⟨x0,ws,hw0⟩:∃ x0 ws,WL = x0 :: ws:=by
   cases WL with
   | nil => exact absurd hL.symm (Sp.pcs_ne _ _)
   | cons x0 ws => exact ⟨x0,ws,rfl⟩
 obtain ⟨n,hn⟩:∃ n,n = WL.length:=⟨_,rfl⟩
 have hn1:1 <= n:=by rw [hn,hw0]; exact Nat.succ_le_succ (Nat.zero_le _)
 have hn2:n <= 40001:=by
   have h9:=Sp.pcs_len 32 t.data.toList
   rw [<- hL,List.length_map] at h9
   have h8:t.data.toList.length = t.size:=rfl
   have h7:=HM.out
   omega
 obtain ⟨b,o,c9,hv',f1,f2,f3,f4⟩:=SlR.form hv.strs (by rw [<- hn]; exact hn1)
 subst hv'
 rw [<- hn] at f1 ⊢
 have HC:=lH (show ∀ (W:World),Since w1 W -> ∀ (j:Nat) x,WL[j]? = some x -> W.cell? ⟨b,o + j,none⟩ = some (.string x) from fun W hW j x hx => (Below.cell hW (p:=⟨b,o + j,none⟩) f3).trans (f4 j (.string x) (by rw [List.getElem?_map,hx]; rfl)))
 have HN:=lH hn
 have HL:=lH hL
 have HZ:=lH hzz
 have HW0:=lH hw0
 have HX0:=lH (show WL[0]? = some x0 by rw [hw0]; rfl)
 have HT1:=lH (Tab2.since HT.out (HS.out.step h1))
 replace hr:=lH (hr.out.step h1)
 replace HS:=lH (HS.out.step h1)
 have hps:=lH (PS.new w1)
 unfold Z7 at hps
 clear hv hL hzz hn hw0 f1 f2 f3 f4 h1 HT
 go_wp2_with fail
 generalize w1.alloc (.cells #[.int .i64 0,.string ⟨#[]⟩,.slice none 0 0,.string ⟨#[]⟩,.string ⟨#[]⟩,.string ⟨#[]⟩,.string ⟨#[]⟩] 60) = w2 at hps ⊢
 obtain ⟨g,hg⟩:∃ g,w1.heap.size = g:=⟨_,rfl⟩
 have HG:=lH hg
 rw [hg] at hps ⊢
 clear hg
 go_loopw [6] (fun i wr => ∃ j:Nat,1 <= j /\ j <= 12 /\ i = .int .i64 (j:Int) /\ Hid (PS w1 wr g (kK x0.data.toList j) ⟨#[]⟩ [] ⟨#[]⟩ ⟨#[]⟩ ⟨#[]⟩ ⟨#[]⟩ (.slice none 0 0) [])) (fun i _ => 13 - (intOf i).toNat)
 case atStart => exact ⟨1,by omega,by omega,rfl,by rw [kK_1]; exact hps⟩
 case round =>
   clear hps
   obtain ⟨j,hj1,hj2,rfl,hps⟩:=hrel
   by_cases hlt:j < 12
   · have m0:=HC.out wr hps.out.2 0 x0 HX0.out
     rw [Nat.add_zero] at m0
     obtain ⟨Y,hY⟩:∃ Y,Y = bs (rowOf (j:Int)).1:=⟨_,rfl⟩
     have c2:=rname_ret (j:Int) Y hY
     have i1:(0:Int) < (n:Int):=by omega
     have i2:0 < n:=by omega
     by_cases hB:(rowOf (j:Int)).1 = x0.data.toList
     · have q1:(Y.toList == x0.toList) = true:=by rw [toList_d,toList_d,hY,list_bs]; exact beq_iff_eq.2 hB
       have HK:Hid (kK x0.data.toList (j + 1) = (j:Int)):=lH (kK_yes _ _ hj1 (by omega) hB)
       clear hB
       have C2:=lH c2
       clear c2 hY
       go_wp2_with fail
       go_quiet ((go_at_call 50; exact Calls.quiet_of_same (stillR C2.out _)))
       replace hps:=lH (hps.out.since (belowN _ nq))
       clear m0 C2
       generalize wr.drewN nq = wb at hps ⊢
       go_wp2_with (refine RwL.at_store (ty:=3) rfl ?_; refine RwL.store_rows rfl 3 _ _ (by rfl) one_i w1 wb [] [⟨91,2,.slice none 0 0,0,[]⟩] 60 7 g 1 1 [.int .i64 (kK x0.data.toList j),.string ⟨#[]⟩,.slice none 0 0,.string ⟨#[]⟩,.string ⟨#[]⟩,.string ⟨#[]⟩,.string ⟨#[]⟩] hps.out.1 hps.out.2 0 (by decide) (by rfl) (.int .i64 (j:Int)) (by rfl) rfl ?_; intro wz hz1 hz2 _)
       have HF:Hid (PS w1 wz g (kK x0.data.toList (j + 1)) ⟨#[]⟩ [] ⟨#[]⟩ ⟨#[]⟩ ⟨#[]⟩ ⟨#[]⟩ (.slice none 0 0) []):=lH (by rw [HK.out]; exact ⟨hz1,hz2⟩)
       clear hz1 hz2 hps
       go_wp2_with fail
       go_roundw
       case rel => exact ⟨j + 1,by omega,by omega,by go_num,HF⟩
       case measure => (simp [intOf] <;> omega)
     · have q1:(Y.toList == x0.toList) = false:=by rw [toList_d,toList_d,hY,list_bs]; exact beq_eq_false_iff_ne.2 hB
       have HK:Hid (kK x0.data.toList (j + 1) = kK x0.data.toList j):=lH (kK_no _ _ hj1 hB)
       clear hB
       have C2:=lH c2
       clear c2 hY
       go_wp2_with fail
       go_quiet ((go_at_call 50; exact Calls.quiet_of_same (stillR C2.out _)))
       replace hps:=lH (hps.out.since (belowN _ nq))
       clear m0 C2
       generalize wr.drewN nq = wb at hps ⊢
       go_wp2_with fail
       go_roundw
       case rel => exact ⟨j + 1,by omega,by omega,by go_num,lH (by rw [HK.out]; exact hps.out)⟩
       case measure => (simp [intOf] <;> omega)
   · obtain ⟨J,hJ⟩:∃ J:Int,J = (j:Int):=⟨_,rfl⟩
     have hj12:j = 12:=by omega
     rw [hj12] at hps
     rw [<- hJ]
     have i3:¬ (J < 12):=by omega
     clear hlt hj1 hj2 hJ hj12
     have HP0:Hid (PS w1 wr g (namedV x0.data.toList) ⟨#[]⟩ [] ⟨#[]⟩ ⟨#[]⟩ ⟨#[]⟩ ⟨#[]⟩ (.slice none 0 0) []):=lH (by rw [<- kK_12]; exact hps.out)
     have HR0:Hid (rcandW ((WL.map (fun z:ByteArray => z.data.toList)).take 1) = (namedV x0.data.toList,⟨#[]⟩,[],noH)):=lH (by rw [HW0.out]; rfl)
     clear hps HX0
     go_wp2_with fail
     go_loopw [7] (fun i wr => ∃ j:Nat,1 <= j /\ j <= n /\ i = .int .i64 (j:Int) /\ Hid (WS WL w1 wr g j)) (fun i _ => n - (intOf i).toNat)
     case atStart => exact ⟨1,Nat.le_refl _,hn1,rfl,lH ⟨_,_,_,_,_,_,_,_,HR0.out,⟨by decide,by decide,by decide,by decide,by decide,by decide⟩,HP0.out⟩⟩
     case round =>
       clear HP0 HR0
       obtain ⟨j,hj1,hj2,rfl,HWS⟩:=hrel
       obtain ⟨K,k,L,u,m,v,e,V,hrc2,hsz,hps0⟩:=HWS.out
       have HRC2:=lH hrc2
       have HSZ:=lH hsz
       have hps:=lH hps0
       clear HWS hrc2 hsz hps0
       by_cases hlt:j < n
       · obtain ⟨x,hx⟩:∃ x,WL[j]? = some x:=⟨_,List.getElem?_eq_getElem (by rw [<- HN.out]; exact hlt)⟩
         have hxm:(WL.map (fun z:ByteArray => z.data.toList))[j]? = some x.data.toList:=by rw [List.getElem?_map,hx]; rfl
         have hxz:x.size <= 40000:=Nat.le_trans (HZ.out x (List.mem_of_getElem? hx)) HM.out
         have m0:=HC.out wr hps.out.2 j x hx
         have HXM:=lH hxm
         have i1:(0:Int) <= (j:Int):=by omega
         have i2:(j:Int) < (n:Int):=by omega
         clear hx hxm
         by_cases hj:j = 1
         · have t1:((j:Int) == 1) = true:=by rw [hj]; rfl
           obtain ⟨B,c2⟩:=runhex_m x (by omega)
           have HRN:Hid (rcandW ((WL.map (fun z:ByteArray => z.data.toList)).take (j + 1)) = (K,Dig.unS x.data.toList,L,(u,m,v,e))):=lH (by
             have h9:=HRC2.out
             have h8:=HXM.out
             rw [hj] at h8 h9 ⊢
             rw [HW0.out,List.map_cons] at h8 h9 ⊢
             rw [rcand_2 _ _ _ h8]
             rw [rcand_1] at h9
             cases h9
             rfl)
           have hz:=unS_half x.data.toList
           have hzl:x.data.toList.length = x.size:=rfl
           obtain ⟨Y,hY⟩:∃ Y,Y = Dig.unS x.data.toList:=⟨_,rfl⟩
           rw [<- hY] at c2 HRN hz
           have HSZ2:Hid (Y.size <= 40000 /\ u.size <= 20000 /\ m.size <= 20000 /\ v.size <= 20000 /\ e.size <= 20000 /\ L.length <= j + 1):=lH ⟨by omega,HSZ.out.2.1,HSZ.out.2.2.1,HSZ.out.2.2.2.1,HSZ.out.2.2.2.2.1,Nat.le_succ_of_le HSZ.out.2.2.2.2.2⟩
           clear hY hz hzl hxz hj
           go_wp2_with fail
           refine c2.calls0 ?_
           intro w5 hq
           replace hps:=lH (hps.out.since hq)
           clear hq m0 c2
           go_wp2_with (refine RwL.at_store (ty:=9) rfl ?_; refine RwL.store_rows rfl 9 _ _ (by rfl) one_s w1 w5 [] [⟨91,2,V,L.length,L.flatMap ac⟩] 60 7 g 1 1 [.int .i64 K,.string k,V,.string u,.string m,.string v,.string e] hps.out.1 hps.out.2 1 (by decide) (by rfl) (.string Y) (by rfl) rfl ?_; intro wz hz1 hz2 _)
           have HF:Hid (PS w1 wz g K Y L u m v e V []):=lH ⟨hz1,hz2⟩
           clear hz1 hz2 hps
           go_wp2_with fail
           go_roundw
           case rel => exact ⟨j + 1,by omega,by omega,by go_num,lH ⟨_,_,_,_,_,_,_,_,HRN.out,HSZ2.out,HF.out⟩⟩
           case measure => (simp [intOf] <;> omega)
         · have t1:((j:Int) == 1) = false:=beq_eq_false_iff_ne.2 (by omega)
           have HRN:=lH (rcand_snoc _ j (by omega) _ HXM.out)
           rw [HRC2.out] at HRN
           dsimp only at HRN
           by_cases hh:x.data.toList.head? = some 64
           · rw [rst_head _ _ hh] at HRN
             dsimp only at HRN
             have hx0:0 < x.size:=by
               rcases Nat.eq_zero_or_pos x.size with h9 | h9
               · have h8:x.data.toList = []:=List.length_eq_zero_iff.1 h9
                 rw [h8] at hh
                 cases hh
               · exact h9
             have p0:(((x[0]'hx0).toNat:Int) == 64) = true:=by
               rw [head_at x hx0] at hh
               rw [Option.some.inj hh]
               rfl
             have e0:(x.toList == ([]:List UInt8)) = false:=by
               rw [toList_d]
               refine beq_eq_false_iff_ne.2 (fun h9 => ?_)
               rw [h9] at hh
               cases hh
             have e1:(x.toList != ([]:List UInt8)) = true:=by rw [bne,e0]; rfl
             have n1:(1:Int) <= (x.size:Int):=by omega
             obtain ⟨y,hy⟩:∃ y,y = x.extract 1 x.size:=⟨_,rfl⟩
             have hyl:y.data.toList = x.data.toList.tail:=by rw [hy]; exact tail_list x
             have hyz:y.size <= 40000:=by rw [hy,ByteArray.size_extract]; omega
             have c2:∀ w,Calls Tryz.prog 49 #[.string y,.int .u8 44] w fun e w' => ∃ v L,e = .returned v /\ SRow w w' v L /\ L.map (·.data.toList) = Sp.pcs 44 y.data.toList /\ (∀ x ∈ L,x.size <= y.size) /\ Since w w':=fun w => parted_mk y 44 (by omega) w
             rw [hyl] at c2
             have HYZ:=lH hyz
             have HC2:=lH c2
             have HY9:=lH hy
             have HH9:=lH hh
             clear c2 hyl hyz hj hxz hh hy
             go_wp2_with fail
             rw [<- HY9.out]
             refine (HC2.out _).mono ?_
             rintro _ w5 ⟨V2,P,rfl,hv2,hL2,hz2,h5⟩
             have HLP:=lH hL2
             have hPn:P ≠ []:=fun h9 => by rw [h9] at hL2; exact Sp.pcs_ne _ _ hL2.symm
             have hPl:P.length <= 100000:=by
               have h9:=Sp.pcs_len 44 x.data.toList.tail
               rw [<- hL2,List.length_map,List.length_tail] at h9
               have h8:x.data.toList.length = x.size:=rfl
               have h7:=HZ.out
               have h6:=HYZ.out
               have h4:y.size = x.size - 1:=by rw [HY9.out,ByteArray.size_extract]; omega
               omega
             obtain ⟨a,b2,c,d,r,hP4⟩:=four_of P hPn
             have HP4:=lH hP4
             have HPZ:Hid (∀ z ∈ a :: b2 :: c :: d :: r,z.size <= 40000):=lH (by
               rw [<- hP4]
               intro z hz
               rcases List.mem_append.1 hz with hz | hz
               · exact Nat.le_trans (hz2 z hz) HYZ.out
               · simp only [List.mem_cons,List.not_mem_nil,or_false] at hz
                 rcases hz with rfl | rfl | rfl <;> exact Nat.zero_le _)
             have HV2:=lH hv2
             have HS5:=lH h5
             have HB1:=lH (show P.length + 3 <= maxLen by unfold maxLen; omega)
             have HB2:=lH (show (P.length + 3) * 16 <= 140737488355328 by omega)
             obtain ⟨m3,hm3⟩:∃ m3,m3 = P.length + 3:=⟨_,rfl⟩
             have k4:4 <= m3:=by
               have h9:1 <= P.length:=by
                 cases P with
                 | nil => exact absurd rfl hPn
                 | cons _ _ => exact Nat.succ_le_succ (Nat.zero_le _)
               omega
             have HM3:=lH hm3
             obtain ⟨VA2,vc2,hV2,-⟩:=hv2.val
             subst hV2
             clear hL2 hz2 hv2 h5 hPn hPl hP4 hm3 m0 e0 e1 p0 n1
             go_wp2_with (at_builtin; refine app_rows elemS rfl _ _ (by rfl) wr w5 _ rfl [] [] _ P.length _ (by rfl) HV2.out HS5.out #[.string ⟨#[]⟩,.string ⟨#[]⟩,.string ⟨#[]⟩] 3 3 (by rfl) rfl three_one HB1.out HB2.out ?_; intro V3 w6 HQ HT2 _; have h98:=HQ.get; dsimp only at h98; obtain ⟨g3,c3,hV3⟩:=own_addr h98 (Nat.succ_pos _); subst hV3; replace hps:=lH (hps.out.push HT2 HQ.get); dsimp only at hps;  rw [show P.map Value.string ++ (#[.string ⟨#[]⟩,.string ⟨#[]⟩,.string ⟨#[]⟩]:Array Value).toList = (a :: b2 :: c :: d :: r).map Value.string by rw [<- HP4.out,List.map_append]; rfl,<- HM3.out] at hps; rw [<- HM3.out]; clear HQ HT2 h98; have m1:=hps.out.word 0 (.string a) rfl)
             have l0:(0:Int) < (m3:Int):=by omega
             have l1:(1:Int) < (m3:Int):=by omega
             have l2:(2:Int) < (m3:Int):=by omega
             have l3:(3:Int) < (m3:Int):=by omega
             obtain ⟨B0,c2⟩:=runhex_m a (by have:=HPZ.out a (by simp); omega)
             obtain ⟨Y0,hY0⟩:∃ Y,Y = Dig.unS a.data.toList:=⟨_,rfl⟩
             rw [<- hY0] at c2
             have HY0:=lH hY0
             clear hY0
             go_wp2_with fail
             refine c2.calls0 ?_
             intro w7 hq
             replace hps:=lH (hps.out.since hq)
             clear hq m1 c2
             go_wp2_with (refine RwL.at_store (ty:=9) rfl ?_; refine RwL.store_rows rfl 9 _ _ (by rfl) one_s w1 w7 [] [⟨91,2,V,L.length,L.flatMap ac⟩,⟨9,1,.slice (some ⟨g3,0,none⟩) m3 c3,m3,(a :: b2 :: c :: d :: r).map Value.string⟩] 60 7 g 1 1 [.int .i64 K,.string k,V,.string u,.string m,.string v,.string e] hps.out.1 hps.out.2 3 (by decide) (by rfl) (.string Y0) (by rfl) rfl ?_; intro w8 hz1 hz2 _; replace hps:=lH (show PS w1 w8 g K k L Y0 m v e V [⟨9,1,.slice (some ⟨g3,0,none⟩) m3 c3,m3,(a :: b2 :: c :: d :: r).map Value.string⟩] from ⟨hz1,hz2⟩); clear hz1 hz2; have m1:=hps.out.word 1 (.string b2) rfl)
             obtain ⟨B1,c2⟩:=runhex_m b2 (by have:=HPZ.out b2 (by simp); omega)
             obtain ⟨Y1,hY1⟩:∃ Y,Y = Dig.unS b2.data.toList:=⟨_,rfl⟩
             rw [<- hY1] at c2
             have HY1:=lH hY1
             clear hY1
             go_wp2_with fail
             refine c2.calls0 ?_
             intro w9 hq
             replace hps:=lH (hps.out.since hq)
             clear hq m1 c2
             go_wp2_with (refine RwL.at_store (ty:=9) rfl ?_; refine RwL.store_rows rfl 9 _ _ (by rfl) one_s w1 w9 [] [⟨91,2,V,L.length,L.flatMap ac⟩,⟨9,1,.slice (some ⟨g3,0,none⟩) m3 c3,m3,(a :: b2 :: c :: d :: r).map Value.string⟩] 60 7 g 1 1 [.int .i64 K,.string k,V,.string Y0,.string m,.string v,.string e] hps.out.1 hps.out.2 4 (by decide) (by rfl) (.string Y1) (by rfl) rfl ?_; intro w10 hz1 hz2 _; replace hps:=lH (show PS w1 w10 g K k L Y0 Y1 v e V [⟨9,1,.slice (some ⟨g3,0,none⟩) m3 c3,m3,(a :: b2 :: c :: d :: r).map Value.string⟩] from ⟨hz1,hz2⟩); clear hz1 hz2; have m1:=hps.out.word 2 (.string c) rfl)
             obtain ⟨B2,c2⟩:=runhex_m c (by have:=HPZ.out c (by simp); omega)
             obtain ⟨Y2,hY2⟩:∃ Y,Y = Dig.unS c.data.toList:=⟨_,rfl⟩
             rw [<- hY2] at c2
             have HY2:=lH hY2
             clear hY2
             go_wp2_with fail
             refine c2.calls0 ?_
             intro w11 hq
             replace hps:=lH (hps.out.since hq)
             clear hq m1 c2
             go_wp2_with (refine RwL.at_store (ty:=9) rfl ?_; refine RwL.store_rows rfl 9 _ _ (by rfl) one_s w1 w11 [] [⟨91,2,V,L.length,L.flatMap ac⟩,⟨9,1,.slice (some ⟨g3,0,none⟩) m3 c3,m3,(a :: b2 :: c :: d :: r).map Value.string⟩] 60 7 g 1 1 [.int .i64 K,.string k,V,.string Y0,.string Y1,.string v,.string e] hps.out.1 hps.out.2 5 (by decide) (by rfl) (.string Y2) (by rfl) rfl ?_; intro w12 hz1 hz2 _; replace hps:=lH (show PS w1 w12 g K k L Y0 Y1 Y2 e V [⟨9,1,.slice (some ⟨g3,0,none⟩) m3 c3,m3,(a :: b2 :: c :: d :: r).map Value.string⟩] from ⟨hz1,hz2⟩); clear hz1 hz2; have m1:=hps.out.word 3 (.string d) rfl)
             obtain ⟨B3,c2⟩:=runhex_m d (by have:=HPZ.out d (by simp); omega)
             obtain ⟨Y3,hY3⟩:∃ Y,Y = Dig.unS d.data.toList:=⟨_,rfl⟩
             rw [<- hY3] at c2
             have HY3:=lH hY3
             clear hY3
             go_wp2_with fail
             refine c2.calls0 ?_
             intro w13 hq
             replace hps:=lH (hps.out.since hq)
             clear hq m1 c2
             go_wp2_with (refine RwL.at_store (ty:=9) rfl ?_; refine RwL.store_rows rfl 9 _ _ (by rfl) one_s w1 w13 [] [⟨91,2,V,L.length,L.flatMap ac⟩,⟨9,1,.slice (some ⟨g3,0,none⟩) m3 c3,m3,(a :: b2 :: c :: d :: r).map Value.string⟩] 60 7 g 1 1 [.int .i64 K,.string k,V,.string Y0,.string Y1,.string Y2,.string e] hps.out.1 hps.out.2 6 (by decide) (by rfl) (.string Y3) (by rfl) rfl ?_; intro w14 hz1 hz2 _; replace hps:=lH (show PS w1 w14 g K k L Y0 Y1 Y2 Y3 V [⟨9,1,.slice (some ⟨g3,0,none⟩) m3 c3,m3,(a :: b2 :: c :: d :: r).map Value.string⟩] from ⟨hz1,hz2⟩); clear hz1 hz2; skip)
             have HF:Hid (PS w1 w14 g K k L Y0 Y1 Y2 Y3 V []):=lH hps.out.pop
             have HRH:=lH (rhead_is _ P a b2 c d r HLP.out HP4.out)
             have hal:∀ z:ByteArray,z ∈ a :: b2 :: c :: d :: r -> (Dig.unS z.data.toList).size <= 20000:=fun z hz => by
               have h9:=unS_half z.data.toList
               have h8:z.data.toList.length = z.size:=rfl
               have h7:=HPZ.out z hz
               omega
             have HSZ2:Hid (k.size <= 40000 /\ Y0.size <= 20000 /\ Y1.size <= 20000 /\ Y2.size <= 20000 /\ Y3.size <= 20000 /\ L.length <= j + 1):=lH ⟨HSZ.out.1,by rw [HY0.out]; exact hal a (by simp),by rw [HY1.out]; exact hal b2 (by simp),by rw [HY2.out]; exact hal c (by simp),by rw [HY3.out]; exact hal d (by simp),Nat.le_succ_of_le HSZ.out.2.2.2.2.2⟩
             have HRN2:Hid (rcandW ((WL.map (fun z:ByteArray => z.data.toList)).take (j + 1)) = (K,k,L,(Y0,Y1,Y2,Y3))):=lH (by rw [HRN.out,HRH.out,HY0.out,HY1.out,HY2.out,HY3.out])
             clear hps hal HRH l0 l1 l2 l3 k4
             go_wp2_with fail
             go_roundw
             case rel => exact ⟨j + 1,by omega,by omega,by go_num,lH ⟨_,_,_,_,_,_,_,_,HRN2.out,HSZ2.out,HF.out⟩⟩
             case measure => (simp [intOf] <;> omega)
           · rw [rst_att _ _ hh] at HRN
             dsimp only at HRN
             have c2:∀ w,Calls Tryz.prog 49 #[.string x,.int .u8 61] w fun e w' => ∃ v L,e = .returned v /\ SRow w w' v L /\ L.map (·.data.toList) = Sp.pcs 61 x.data.toList /\ (∀ z ∈ L,z.size <= x.size) /\ Since w w':=fun w => parted_mk x 61 (by omega) w
             have HC2:=lH c2
             have HXZ:=lH hxz
             clear c2 hxz hj
             by_cases hx0:0 < x.size
             · have p0:(((x[0]'hx0).toNat:Int) == 64) = false:=by
                 rw [head_at x hx0] at hh
                 refine beq_eq_false_iff_ne.2 (fun h9 => hh (congrArg some (UInt8.toNat_inj.1 ?_)))
                 show _ = 64
                 omega
               have e0:(x.toList == ([]:List UInt8)) = false:=by
                 rw [toList_d]
                 refine beq_eq_false_iff_ne.2 (fun h9 => ?_)
                 have h8:x.size = 0:=by show x.data.toList.length = 0; rw [h9]; rfl
                 omega
               have e1:(x.toList != ([]:List UInt8)) = true:=by rw [bne,e0]; rfl
               clear hh
               go_wp2_with fail
               refine (HC2.out _).mono ?_
               rintro _ w5 ⟨V2,P,rfl,hv2,hL2,hz2,h5⟩
               have HLP:=lH hL2
               have hPn:P ≠ []:=fun h9 => by rw [h9] at hL2; exact Sp.pcs_ne _ _ hL2.symm
               have hPl:P.length <= 100000:=by
                 have h9:=Sp.pcs_len 61 x.data.toList
                 rw [<- hL2,List.length_map] at h9
                 have h8:x.data.toList.length = x.size:=rfl
                 have h7:=HXZ.out
                 omega
               obtain ⟨a,b2,r,hP4⟩:=two_of P hPn
               have HP4:=lH hP4
               have HPZ:Hid (∀ z ∈ a :: b2 :: r,z.size <= 40000):=lH (by
                 rw [<- hP4]
                 intro z hz
                 rcases List.mem_append.1 hz with hz | hz
                 · exact Nat.le_trans (hz2 z hz) HXZ.out
                 · rw [List.mem_singleton.1 hz]
                   exact Nat.zero_le _)
               have HV2:=lH hv2
               have HS5:=lH h5
               have HB1:=lH (show P.length + 1 <= maxLen by unfold maxLen; omega)
               have HB2:=lH (show (P.length + 1) * 16 <= 140737488355328 by omega)
               obtain ⟨m3,hm3⟩:∃ m3,m3 = P.length + 1:=⟨_,rfl⟩
               have k4:2 <= m3:=by
                 have h9:1 <= P.length:=by
                   cases P with
                   | nil => exact absurd rfl hPn
                   | cons _ _ => exact Nat.succ_le_succ (Nat.zero_le _)
                 omega
               have HM3:=lH hm3
               have l0:(0:Int) < (m3:Int):=by omega
               have l1:(1:Int) < (m3:Int):=by omega
               obtain ⟨VA2,vc2,hV2,-⟩:=hv2.val
               subst hV2
               clear hL2 hz2 hv2 h5 hPn hPl hP4 hm3 m0
               go_wp2_with (at_builtin; refine app_rows elemS rfl _ _ (by rfl) wr w5 _ rfl [] [] _ P.length _ (by rfl) HV2.out HS5.out #[.string ⟨#[]⟩] 1 1 (by rfl) rfl (s_one _) HB1.out HB2.out ?_; intro V3 w6 HQ HT2 _; have h98:=HQ.get; dsimp only at h98; obtain ⟨g3,c3,hV3⟩:=own_addr h98 (Nat.succ_pos _); subst hV3; rw [show P.map Value.string ++ (#[.string ⟨#[]⟩]:Array Value).toList = (a :: b2 :: r).map Value.string by rw [<- HP4.out,List.map_append]; rfl,<- HM3.out] at h98; rw [<- HM3.out]; replace hps:=lH (hps.out.since HT2); have HO:=lH h98; clear HQ HT2 h98; have m1:=own_cell HO.out 0 (.string a) rfl)
               obtain ⟨Ba,c4⟩:=runnum_m a (by have:=HPZ.out a (by simp); omega)
               obtain ⟨Bb,c5⟩:=runhex_m b2 (by have:=HPZ.out b2 (by simp); omega)
               have HRA:=lH (ratt_is _ P a b2 r HLP.out HP4.out)
               obtain ⟨Ta,hTa⟩:∃ T,T = unNv a.data.toList:=⟨_,rfl⟩
               obtain ⟨Yb,hYb⟩:∃ Y,Y = Dig.unS b2.data.toList:=⟨_,rfl⟩
               rw [<- hTa] at c4 HRA
               rw [<- hYb] at c5 HRA
               clear hTa hYb
               refine c4.calls0 ?_
               intro w7 hq
               replace hps:=lH (hps.out.since hq)
               have m2:=(Below.cell hq (p:=⟨g3,1,none⟩) (lt_cell (own_cell HO.out 1 (.string b2) rfl))).trans (own_cell HO.out 1 (.string b2) rfl)
               clear hq m1 c4 HO
               go_wp2_with fail
               refine c5.calls0 ?_
               intro w8 hq
               replace hps:=lH (hps.out.since hq)
               clear hq m2 c5
               obtain ⟨VA,vc,hVV,-⟩:=hps.out.val
               subst hVV
               obtain ⟨nl,hnl⟩:∃ nl,nl = L.length:=⟨_,rfl⟩
               have HNL:=lH hnl
               have hnb:nl <= 40001:=by
                 have h9:=HSZ.out.2.2.2.2.2
                 omega
               have HB3:=lH (show nl + 1 <= maxLen by unfold maxLen; omega)
               have HB4:=lH (show (nl + 1) * 24 <= 140737488355328 by omega)
               rw [<- hnl] at hps
               have m2:=hps.out.cells.2.2.1
               have HPS8:Hid (Rw.Rows w8 w1.heap.size ([RwL.lone 60 g [.int .i64 K,.string k,.slice VA nl vc,.string u,.string m,.string v,.string e]] ++ ⟨91,2,.slice VA nl vc,nl,L.flatMap ac⟩ :: [])):=lH (by rw [HNL.out] at hps ⊢; exact hps.out.1)
               have HS8:=lH hps.out.2
               clear hnl hnb k4 l0 l1 hps
               go_wp2_with (first | (at_builtin; refine app_rows elemAt rfl _ _ (by rfl) w1 w8 _ rfl [RwL.lone 60 g [.int .i64 K,.string k,.slice VA nl vc,.string u,.string m,.string v,.string e]] [] _ nl _ (by rfl) HPS8.out HS8.out #[.int .i64 Ta,.string Yb] 1 1 (by rfl) rfl (ac_one (Ta,Yb)) HB3.out HB4.out ?_; intro V4 w9 HQ9 HT9 _; have HQ:=lH HQ9; have HT:=lH HT9; obtain ⟨VB,vd,hV4⟩:=RwL.own_any HQ9.get; dsimp only at hV4; subst hV4; clear HQ9 HT9 m2) | (refine RwL.at_store (ty:=56) rfl ?_; refine RwL.store_rows rfl 56 _ _ (by rfl) one_a w1 w9 [] [⟨91,2,.slice VB (nl + 1) vd,nl + 1,L.flatMap ac ++ (#[.int .i64 Ta,.string Yb]:Array Value).toList⟩] 60 7 g 1 1 [.int .i64 K,.string k,.slice VA nl vc,.string u,.string m,.string v,.string e] HQ.out HT.out 2 (by decide) (by rfl) (.slice VB (nl + 1) vd) (by rfl) rfl ?_; intro w10 hz1 hz2 _; have HZ1:=lH hz1; have HZ2:=lH hz2; clear hz1 hz2))
               have HF:Hid (PS w1 w10 g K k (L ++ [(Ta,Yb)]) u m v e (.slice VB (nl + 1) vd) []):=lH ⟨by
                 have h9:=HZ1.out
                 rw [HNL.out] at h9 ⊢
                 rw [List.flatMap_append,List.length_append]
                 exact h9,HZ2.out⟩
               have HSZ2:Hid (k.size <= 40000 /\ u.size <= 20000 /\ m.size <= 20000 /\ v.size <= 20000 /\ e.size <= 20000 /\ (L ++ [(Ta,Yb)]).length <= j + 1):=lH ⟨HSZ.out.1,HSZ.out.2.1,HSZ.out.2.2.1,HSZ.out.2.2.2.1,HSZ.out.2.2.2.2.1,by rw [List.length_append]; exact Nat.succ_le_succ HSZ.out.2.2.2.2.2⟩
               have HRN2:Hid (rcandW ((WL.map (fun z:ByteArray => z.data.toList)).take (j + 1)) = (K,k,L ++ [(Ta,Yb)],(u,m,v,e))):=lH (by rw [HRN.out,HRA.out])
               clear HQ HT HPS8 HS8 HRA
               go_wp2_with fail
               go_roundw
               case rel => exact ⟨j + 1,by omega,by omega,by go_num,lH ⟨_,_,_,_,_,_,_,_,HRN2.out,HSZ2.out,HF.out⟩⟩
               case measure => (simp [intOf] <;> omega)
             · have h8:x.data.toList = []:=List.length_eq_zero_iff.1 (show x.size = 0 by omega)
               have e0:(x.toList == ([]:List UInt8)) = true:=by rw [toList_d,h8]; rfl
               have e1:(x.toList != ([]:List UInt8)) = false:=by rw [bne,e0]; rfl
               clear hh h8 hx0
               go_wp2_with fail
               refine (HC2.out _).mono ?_
               rintro _ w5 ⟨V2,P,rfl,hv2,hL2,hz2,h5⟩
               have HLP:=lH hL2
               have hPn:P ≠ []:=fun h9 => by rw [h9] at hL2; exact Sp.pcs_ne _ _ hL2.symm
               have hPl:P.length <= 100000:=by
                 have h9:=Sp.pcs_len 61 x.data.toList
                 rw [<- hL2,List.length_map] at h9
                 have h8:x.data.toList.length = x.size:=rfl
                 have h7:=HXZ.out
                 omega
               obtain ⟨a,b2,r,hP4⟩:=two_of P hPn
               have HP4:=lH hP4
               have HPZ:Hid (∀ z ∈ a :: b2 :: r,z.size <= 40000):=lH (by
                 rw [<- hP4]
                 intro z hz
                 rcases List.mem_append.1 hz with hz | hz
                 · exact Nat.le_trans (hz2 z hz) HXZ.out
                 · rw [List.mem_singleton.1 hz]
                   exact Nat.zero_le _)
               have HV2:=lH hv2
               have HS5:=lH h5
               have HB1:=lH (show P.length + 1 <= maxLen by unfold maxLen; omega)
               have HB2:=lH (show (P.length + 1) * 16 <= 140737488355328 by omega)
               obtain ⟨m3,hm3⟩:∃ m3,m3 = P.length + 1:=⟨_,rfl⟩
               have k4:2 <= m3:=by
                 have h9:1 <= P.length:=by
                   cases P with
                   | nil => exact absurd rfl hPn
                   | cons _ _ => exact Nat.succ_le_succ (Nat.zero_le _)
                 omega
               have HM3:=lH hm3
               have l0:(0:Int) < (m3:Int):=by omega
               have l1:(1:Int) < (m3:Int):=by omega
               obtain ⟨VA2,vc2,hV2,-⟩:=hv2.val
               subst hV2
               clear hL2 hz2 hv2 h5 hPn hPl hP4 hm3 m0
               go_wp2_with (at_builtin; refine app_rows elemS rfl _ _ (by rfl) wr w5 _ rfl [] [] _ P.length _ (by rfl) HV2.out HS5.out #[.string ⟨#[]⟩] 1 1 (by rfl) rfl (s_one _) HB1.out HB2.out ?_; intro V3 w6 HQ HT2 _; have h98:=HQ.get; dsimp only at h98; obtain ⟨g3,c3,hV3⟩:=own_addr h98 (Nat.succ_pos _); subst hV3; rw [show P.map Value.string ++ (#[.string ⟨#[]⟩]:Array Value).toList = (a :: b2 :: r).map Value.string by rw [<- HP4.out,List.map_append]; rfl,<- HM3.out] at h98; rw [<- HM3.out]; replace hps:=lH (hps.out.since HT2); have HO:=lH h98; clear HQ HT2 h98; have m1:=own_cell HO.out 0 (.string a) rfl)
               obtain ⟨Ba,c4⟩:=runnum_m a (by have:=HPZ.out a (by simp); omega)
               obtain ⟨Bb,c5⟩:=runhex_m b2 (by have:=HPZ.out b2 (by simp); omega)
               have HRA:=lH (ratt_is _ P a b2 r HLP.out HP4.out)
               obtain ⟨Ta,hTa⟩:∃ T,T = unNv a.data.toList:=⟨_,rfl⟩
               obtain ⟨Yb,hYb⟩:∃ Y,Y = Dig.unS b2.data.toList:=⟨_,rfl⟩
               rw [<- hTa] at c4 HRA
               rw [<- hYb] at c5 HRA
               clear hTa hYb
               refine c4.calls0 ?_
               intro w7 hq
               replace hps:=lH (hps.out.since hq)
               have m2:=(Below.cell hq (p:=⟨g3,1,none⟩) (lt_cell (own_cell HO.out 1 (.string b2) rfl))).trans (own_cell HO.out 1 (.string b2) rfl)
               clear hq m1 c4 HO
               go_wp2_with fail
               refine c5.calls0 ?_
               intro w8 hq
               replace hps:=lH (hps.out.since hq)
               clear hq m2 c5
               obtain ⟨VA,vc,hVV,-⟩:=hps.out.val
               subst hVV
               obtain ⟨nl,hnl⟩:∃ nl,nl = L.length:=⟨_,rfl⟩
               have HNL:=lH hnl
               have hnb:nl <= 40001:=by
                 have h9:=HSZ.out.2.2.2.2.2
                 omega
               have HB3:=lH (show nl + 1 <= maxLen by unfold maxLen; omega)
               have HB4:=lH (show (nl + 1) * 24 <= 140737488355328 by omega)
               rw [<- hnl] at hps
               have m2:=hps.out.cells.2.2.1
               have HPS8:Hid (Rw.Rows w8 w1.heap.size ([RwL.lone 60 g [.int .i64 K,.string k,.slice VA nl vc,.string u,.string m,.string v,.string e]] ++ ⟨91,2,.slice VA nl vc,nl,L.flatMap ac⟩ :: [])):=lH (by rw [HNL.out] at hps ⊢; exact hps.out.1)
               have HS8:=lH hps.out.2
               clear hnl hnb k4 l0 l1 hps
               go_wp2_with (first | (at_builtin; refine app_rows elemAt rfl _ _ (by rfl) w1 w8 _ rfl [RwL.lone 60 g [.int .i64 K,.string k,.slice VA nl vc,.string u,.string m,.string v,.string e]] [] _ nl _ (by rfl) HPS8.out HS8.out #[.int .i64 Ta,.string Yb] 1 1 (by rfl) rfl (ac_one (Ta,Yb)) HB3.out HB4.out ?_; intro V4 w9 HQ9 HT9 _; have HQ:=lH HQ9; have HT:=lH HT9; obtain ⟨VB,vd,hV4⟩:=RwL.own_any HQ9.get; dsimp only at hV4; subst hV4; clear HQ9 HT9 m2) | (refine RwL.at_store (ty:=56) rfl ?_; refine RwL.store_rows rfl 56 _ _ (by rfl) one_a w1 w9 [] [⟨91,2,.slice VB (nl + 1) vd,nl + 1,L.flatMap ac ++ (#[.int .i64 Ta,.string Yb]:Array Value).toList⟩] 60 7 g 1 1 [.int .i64 K,.string k,.slice VA nl vc,.string u,.string m,.string v,.string e] HQ.out HT.out 2 (by decide) (by rfl) (.slice VB (nl + 1) vd) (by rfl) rfl ?_; intro w10 hz1 hz2 _; have HZ1:=lH hz1; have HZ2:=lH hz2; clear hz1 hz2))
               have HF:Hid (PS w1 w10 g K k (L ++ [(Ta,Yb)]) u m v e (.slice VB (nl + 1) vd) []):=lH ⟨by
                 have h9:=HZ1.out
                 rw [HNL.out] at h9 ⊢
                 rw [List.flatMap_append,List.length_append]
                 exact h9,HZ2.out⟩
               have HSZ2:Hid (k.size <= 40000 /\ u.size <= 20000 /\ m.size <= 20000 /\ v.size <= 20000 /\ e.size <= 20000 /\ (L ++ [(Ta,Yb)]).length <= j + 1):=lH ⟨HSZ.out.1,HSZ.out.2.1,HSZ.out.2.2.1,HSZ.out.2.2.2.1,HSZ.out.2.2.2.2.1,by rw [List.length_append]; exact Nat.succ_le_succ HSZ.out.2.2.2.2.2⟩
               have HRN2:Hid (rcandW ((WL.map (fun z:ByteArray => z.data.toList)).take (j + 1)) = (K,k,L ++ [(Ta,Yb)],(u,m,v,e))):=lH (by rw [HRN.out,HRA.out])
               clear HQ HT HPS8 HS8 HRA
               go_wp2_with fail
               go_roundw
               case rel => exact ⟨j + 1,by omega,by omega,by go_num,lH ⟨_,_,_,_,_,_,_,_,HRN2.out,HSZ2.out,HF.out⟩⟩
               case measure => (simp [intOf] <;> omega)
       · obtain rfl:n = j:=by omega
         have hcf:rcandF t.data.toList = (K,k,L,(u,m,v,e)):=by
           unfold rcandF
           have h9:=HRC2.out
           rw [List.take_of_length_le (by rw [List.length_map,<- HN.out]; exact Nat.le_refl _),HL.out] at h9
           exact h9
         have HCF:=lH hcf
         obtain ⟨VA,vc,hVV,-⟩:=hps.out.val
         subst hVV
         have c3:=rcheck_rec K k u m v e L (by have:=HSZ.out.1; omega) _ rfl
         have c4:=rtext_mk K k u m v e L (by have:=HSZ.out.1; omega) ⟨HSZ.out.2.1,HSZ.out.2.2.1,HSZ.out.2.2.2.1,HSZ.out.2.2.2.2.1⟩
         have hne:(Value.slice VA L.length vc).ownBlock ≠ some w.heap.size:=fun h9 => by
           have h8:=(World.ownsRow.lt hps.out.own w.heap.size h9).1
           have h7:=(Array.getElem?_eq_some_iff.1 hr.out.row).1
           omega
         have HNE:=lH hne
         obtain ⟨nl,hnl⟩:∃ nl,nl = L.length:=⟨_,rfl⟩
         have HNL:=lH hnl
         have HTw:=lH (Tab2.since HT1.out hps.out.2)
         have HA:=lH hps.out.atts
         replace hr:=lH (hr.out.step hps.out.2)
         replace HS:=lH (HS.out.step hps.out.2)
         rw [<- hnl] at hps HA HNE
         obtain ⟨m0,m1,m2,m3,m4,m5,m6⟩:=hps.out.cells
         obtain ⟨E,hE⟩:∃ E,E = recE K k L:=⟨_,rfl⟩
         rw [<- hE] at c3
         have HEE:=lH hE
         clear hcf hne hnl hE HC HZ HN HW0 hlt hj1 hj2 hn1 hn2 HRC2 i3
         go_wp2_with fail
         refine c3.calls0 HTw.out HA.out ?_
         intro w5 hq
         replace hps:=lH (hps.out.since hq)
         replace HTw:=lH (Tab2.since HTw.out hq)
         replace HA:=lH (HA.out.since hq)
         replace hr:=lH (hr.out.step hq)
         replace HS:=lH (HS.out.step hq)
         clear hq m0 m1 m2 m3 m4 m5 m6 c3
         by_cases h0:E = 0
         · have q0:(E != 0) = false:=by rw [h0]; rfl
           obtain ⟨m0,m1,m2,m3,m4,m5,m6⟩:=hps.out.cells
           obtain ⟨T,hT9⟩:∃ T,T = textV K k L u m v e:=⟨_,rfl⟩
           have HTT:=lH hT9
           rw [<- hT9] at c4
           have H00:=lH h0
           clear hT9 h0
           go_wp2_with fail
           refine c4.calls0 HTw.out HA.out ?_
           intro w6 hq
           replace hps:=lH (hps.out.since hq)
           replace HA:=lH (HA.out.since hq)
           replace hr:=lH (hr.out.step hq)
           replace HS:=lH (HS.out.step hq)
           clear hq m0 m1 m2 m3 m4 m5 m6 c4 HTw
           have HE0:Hid (recC (rcandF t.data.toList) = 0):=lH (by rw [HCF.out]; exact HEE.out.symm.trans H00.out)
           by_cases hTt:T = t
           · have q1:(T.toList != t.toList) = false:=by rw [hTt,bne,beq_self_eq_true]; rfl
             have q2:(T.toList == t.toList) = true:=by rw [hTt]; exact beq_self_eq_true _
             have hp:=par_ref_yes t HE0.out (by rw [HCF.out]; exact HTT.out.symm.trans hTt)
             rw [HCF.out] at hp
             have e9:=HRC.out.symm.trans hp
             cases e9
             obtain ⟨m0,m1,m2,m3,m4,m5,m6⟩:=hps.out.cells
             clear hTt hp hps
             go_wp2_with (refine RwL.at_store (ty:=60) rfl ?_; refine wpList_store_row rfl 60 _ _ rfl w.heap.size #[.int .i64 K,.string k,.slice VA nl vc,.string u,.string m,.string v,.string e] (by rfl) (by rfl) _ _ hr.out.row (r7_info _ _ _ _ _ _ _) rfl (r7_one _ _ _ _ _ _ _ _ _) ?_)
             exact bodyPost_ret (v:=.tuple #[.agg #[.int .i64 K,.string k,.slice VA nl vc,.string u,.string m,.string v,.string e],.int .i64 0]) (results_cell_tmp2 Tryz.results31 _ _ _ _ _ _ _ _ rfl rfl (setRow_heap _ _ _ _ _ _ hr.out.row) Tryz.underlying60 rfl (r7_info _ _ _ _ _ _ _)) rfl ⟨_,rfl,slr_row HA.out HNE.out _,below_setRow HS.out (Nat.le_refl _) _⟩
           · have q1:(T.toList != t.toList) = true:=str_ne_t hTt
             have q2:(T.toList == t.toList) = false:=str_ne_f hTt
             have hp:=par_ref_no t (fun h9 => hTt (by rw [HCF.out] at h9; exact HTT.out.trans h9.2))
             have e9:=HRC.out.symm.trans hp
             cases e9
             clear hTt hp hps HA
             go_wp2_with (refine RwL.at_store (ty:=60) rfl ?_; refine wpList_store_row rfl 60 _ _ rfl w.heap.size Z7 (by rfl) (by rfl) _ _ hr.out.row (r7_info _ _ _ _ _ _ _) rfl (r7_one _ _ _ _ _ _ _ _ _) ?_)
             exact bodyPost_ret (v:=.tuple #[.agg Z7,.int .i64 5]) (results_cell_tmp2 Tryz.results31 _ _ _ _ _ _ _ _ rfl rfl (setRow_heap _ _ _ _ _ _ hr.out.row) Tryz.underlying60 rfl (r7_info _ _ _ _ _ _ _)) rfl ⟨_,rfl,AttsS.nil _,below_setRow HS.out (Nat.le_refl _) _⟩
         · have q0:(E != 0) = true:=bne_iff_ne.2 h0
           have hp:=par_ref_no t (fun h9 => h0 (by rw [HCF.out] at h9; exact HEE.out.trans h9.1))
           have e9:=HRC.out.symm.trans hp
           cases e9
           clear h0 hp hps HA
           go_wp2_with (refine RwL.at_store (ty:=60) rfl ?_; refine wpList_store_row rfl 60 _ _ rfl w.heap.size Z7 (by rfl) (by rfl) _ _ hr.out.row (r7_info _ _ _ _ _ _ _) rfl (r7_one _ _ _ _ _ _ _ _ _) ?_)
           exact bodyPost_ret (v:=.tuple #[.agg Z7,.int .i64 5]) (results_cell_tmp2 Tryz.results31 _ _ _ _ _ _ _ _ rfl rfl (setRow_heap _ _ _ _ _ _ hr.out.row) Tryz.underlying60 rfl (r7_info _ _ _ _ _ _ _)) rfl ⟨_,rfl,AttsS.nil _,below_setRow HS.out (Nat.le_refl _) _⟩
end Rcd
end Go.Proofs.YtcdjfmlanicjlaaGreatDoor
