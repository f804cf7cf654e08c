import Derived.Test.YtcdjfmlanicjlaaGreatDoorSl56
set_option maxRecDepth 100000
namespace Go.Proofs.YtcdjfmlanicjlaaGreatDoor
open Go.RowKit
namespace Scr
open Rw RwL Kind
open Rcd (hx)
def CW (g:Nat) (x1 x2 x4:ByteArray) (W:World):Prop:=W.cell? ⟨g,1,none⟩ = some (.string x1) /\ W.cell? ⟨g,2,none⟩ = some (.string x2) /\ W.cell? ⟨g,4,none⟩ = some (.string x4)
theorem cw_of {w W:World} {r b gw n c:Nat} {x0 x1 x2 x3 x4:ByteArray} {T:List ByteArray} {S:St} (h:Hid (QI w r b gw n c (x0 :: x1 :: x2 :: x3 :: x4 :: T) S W)):CW gw x1 x2 x4 W:=⟨qi_word h 1 _ rfl,qi_word h 2 _ rfl,qi_word h 4 _ rfl⟩
set_option maxHeartbeats 16000000 in
theorem rpars_k (t:ByteArray) (hm:t.size <= 1000000):KMk Tab2 8 #[.string t] (.tuple #[.agg (sc (parsV Rok candR t.data.toList).1).toArray,.int .i64 (parsV Rok candR t.data.toList).2]):=by
 intro w hT
 have HT:=lH hT
 obtain ⟨R,hR⟩:∃ R,R = parsV Rok candR t.data.toList:=⟨_,rfl⟩
 rw [<- hR]
 have HR:=lH hR
 clear hT hR
 have hlr:=rows_push (Rows.nil w w.heap.size) (Nat.le_refl _) (sc noS) 23
 by_cases hz:40000 < t.size
 · have HV:Hid (R = (noS,4)):=lH (by rw [HR.out]; unfold parsV; rw [if_pos (by exact hz)])
   have hg:=lH (heap_alloc_new w (.cells (sc noS).toArray 23))
   have HS:=lH ((Since.refl w).alloc (.cells (sc noS).toArray 23))
   have hone:=s6_one noS
   clear hlr
   unfold sc noS E0 at hg HS hone
   go_enter Tryz.func8,Tryz.ntmps8
   go_wp2_with (refine RwL.at_store (ty:=23) rfl ?_; refine wpList_store_row rfl 23 _ _ rfl w.heap.size #[.string ⟨#[]⟩,.string ⟨#[]⟩,.string ⟨#[]⟩,.int .i64 0,.string ⟨#[]⟩,.string ⟨#[]⟩] (by rfl) (by rfl) _ _ hg.out (rs6_info _ _ _ _ _ _) rfl hone ?_)
   exact bodyPost_ret (v:=.tuple #[.agg #[.string ⟨#[]⟩,.string ⟨#[]⟩,.string ⟨#[]⟩,.int .i64 0,.string ⟨#[]⟩,.string ⟨#[]⟩],.int .i64 4]) (results_cell_tmp2 Tryz.results8 _ _ _ _ _ _ _ _ rfl rfl (setRow_heap _ _ _ _ _ _ hg.out) Tryz.underlying23 rfl (rs6_info _ _ _ _ _ _)) rfl ⟨by rw [HV.out]; rfl,below_setRow HS.out (Nat.le_refl _) _⟩
 have HM:=lH hz
 have t1:decide ((40000:Int) < (t.size:Int)) = false:=decide_eq_false (by omega)
 have HS:=lH ((Since.refl w).alloc (.cells (sc noS).toArray 23))
 have HLR:=lH (hlr.own (RwL.lone 23 w.heap.size (sc noS)) (by simp))
 clear hlr hz
 go_enter Tryz.func8,Tryz.ntmps8
 go_wp2_with fail
 obtain ⟨w1,hw1⟩:∃ W,W = w.alloc (.cells (sc noS).toArray 23):=⟨_,rfl⟩
 rw [show w.alloc (.cells #[.string ⟨#[]⟩,.string ⟨#[]⟩,.string ⟨#[]⟩,.int .i64 0,.string ⟨#[]⟩,.string ⟨#[]⟩] 23) = w1 from hw1.symm]
 rw [<- hw1] at HS HLR
 clear hw1
 refine (rwords_mk t (by have:=HM.out; omega) w1).mono ?_
 rintro _ w2 ⟨v,L,rfl,hs,hL,hlz,h2⟩
 obtain ⟨VA,vc,rfl,-⟩:=hs.val
 have HSR:=lH hs
 have HS2:=lH h2
 have hl1:1 <= L.length:=by
   have h9:=congrArg List.length hL
   rw [List.length_map] at h9
   rw [h9]
   exact splN_pos 32 4 _
 have hl5:L.length <= 5:=by
   have h9:=congrArg List.length hL
   rw [List.length_map] at h9
   rw [h9]
   exact splN_len 32 5 (by decide) _
 obtain ⟨x0,x1,x2,x3,x4,T,h5,z0,z1,z2,z3,z4⟩:=five L t.size hl1 hlz
 have HCR:=lH (cand_at _ L hL x0 x1 x2 x3 x4 T h5)
 have HCZ:=lH (cand_size x0 x1 x2 x3 x4 40000 (by have:=HM.out; omega) (by have:=HM.out; omega) (by have:=HM.out; omega) (by have:=HM.out; omega))
 have HL5:=lH h5
 have HB1:=lH (show L.length + 4 <= maxLen by unfold maxLen; omega)
 have HB2:=lH (show (L.length + 4) * 16 <= 140737488355328 by omega)
 obtain ⟨n,hn⟩:∃ n,n = L.length + 4:=⟨_,rfl⟩
 have HN:=lH hn
 have hn5:5 <= n:=by omega
 have l0:(0:Int) < (n:Int):=by omega
 have l1:(1:Int) < (n:Int):=by omega
 have l2:(2:Int) < (n:Int):=by omega
 have l3:(3:Int) < (n:Int):=by omega
 have l4:(4:Int) < (n:Int):=by omega
 clear hs hL hlz h2 hl1 hl5 h5 hn
 have HZX:Hid (x1.size <= 40000 /\ x2.size <= 40000 /\ x3.size <= 40000):=lH ⟨by have:=HM.out; omega,by have:=HM.out; omega,by have:=HM.out; omega⟩
 clear z0 z1 z2 z3 z4
 by_cases hv:x0.data.toList = putL
 ·
   have q10:(x0.toList == ([112,117,116]:List UInt8)) = true:=by rw [toList_d,hv]; decide
   have c4:=rformat_ret x2
   obtain ⟨F,hF⟩:∃ F,F = fmtW x2.data.toList:=⟨_,rfl⟩
   obtain ⟨BB,c6⟩:=Rcd.runhex_m x3 (by have:=HZX.out; omega)
   obtain ⟨Y3,hY3⟩:∃ Y,Y = Dig.unS x3.data.toList:=⟨_,rfl⟩
   rw [<- hF] at c4
   rw [<- hY3] at c6
   have HC:Hid (candX x0 x1 x2 x3 x4 = ⟨x0,x1,E0,F,x4,Y3⟩):=lH (by rw [hF,hY3]; unfold candX; rw [hv,if_pos (by decide)])
   clear hv hF hY3
   go_wp2_with (at_builtin; refine app_rows elemS rfl _ _ (by rfl) w1 w2 _ rfl [] [] _ L.length _ (by rfl) HSR.out HS2.out #[.string ⟨#[]⟩,.string ⟨#[]⟩,.string ⟨#[]⟩,.string ⟨#[]⟩] 4 4 (by rfl) rfl four_one HB1.out HB2.out ?_; intro V3 w4 HQ HT2 _; have h98:=HQ.get; dsimp only at h98; obtain ⟨gw,c3,hV3⟩:=Rcd.own_addr h98 (Nat.succ_pos _); subst hV3; replace h98:=HQ.get; dsimp only at h98; rw [show L.map Value.string ++ (#[.string ⟨#[]⟩,.string ⟨#[]⟩,.string ⟨#[]⟩,.string ⟨#[]⟩]:Array Value).toList = (x0 :: x1 :: x2 :: x3 :: x4 :: T).map Value.string by rw [<- HL5.out,List.map_append]; rfl,<- HN.out] at h98; rw [<- HN.out]; have HI:=lH (qi_new HLR.out HS.out HT2 h98 ⟨x0,E0,E0,0,E0,E0⟩); have HK:=lH (fun S:St => qi_new HLR.out HS.out HT2 h98 S); have m0:=Rcd.own_cell h98 0 (.string x0) rfl; have m1:(w4.alloc (.cells #[.string x0,.string ⟨#[]⟩,.string ⟨#[]⟩,.int .i64 0,.string ⟨#[]⟩,.string ⟨#[]⟩] 23)).cell? ⟨gw,1,none⟩ = some (.string x1):=qi_word HI 1 x1 rfl; clear HQ HT2 h98)
   clear m0 m1
   try clear HI
   obtain ⟨wb,hwb⟩:∃ W,W = w4.alloc (.cells (sc ⟨x0,E0,E0,0,E0,E0⟩).toArray 23):=⟨_,rfl⟩
   rw [show w4.alloc (.cells #[.string x0,.string ⟨#[]⟩,.string ⟨#[]⟩,.int .i64 0,.string ⟨#[]⟩,.string ⟨#[]⟩] 23) = wb from hwb.symm]
   have HI:=lH (HK.out ⟨x0,E0,E0,0,E0,E0⟩)
   rw [<- hwb] at HI
   clear hwb HK
   refine RegW.start (CW gw x1 x2 x4) 15 (by kernel_rfl) (cw_of (qi_drew HI)) (fun hHeld => ?_)
   replace HI:=qi_drew HI
   obtain ⟨wq,hwq⟩:∃ W,W = wb.drew:=⟨_,rfl⟩
   rw [<- hwq] at HI hHeld ⊢
   clear hwq
   refine RegW.take (i:=0) (v:=?_) rfl (by kernel_rfl) (by kernel_rfl) (by kernel_rfl) (by kernel_rfl) (fun _ _ _ h => h) (Or.inl ⟨by kernel_rfl, ?_⟩) (by assumption) ?_
   rotate_left
   · intro w hSw
     unfold CW at hSw
     go_split_ands
     go_simp
     try with_reducible rfl
   try simp only [RegW.p]
   refine RegW.take (i:=1) (v:=?_) rfl (by kernel_rfl) (by kernel_rfl) (by kernel_rfl) (by kernel_rfl) (fun _ _ _ h => h) (Or.inl ⟨by kernel_rfl, ?_⟩) (by assumption) ?_
   rotate_left
   · intro w hSw
     unfold CW at hSw
     go_split_ands
     go_simp
     try with_reducible rfl
   try simp only [RegW.p]
   refine RegW.take (i:=2) (v:=?_) rfl (by kernel_rfl) (by kernel_rfl) (by kernel_rfl) (by kernel_rfl) (fun _ _ _ h => h) (Or.inl ⟨by kernel_rfl, ?_⟩) (by assumption) ?_
   rotate_left
   · intro w hSw
     unfold CW at hSw
     go_split_ands
     go_simp
     try with_reducible rfl
   try simp only [RegW.p]
   refine RegW.take (i:=3) (v:=?_) rfl (by kernel_rfl) (by kernel_rfl) (by kernel_rfl) (by kernel_rfl) (fun _ _ _ h => h) (Or.inl ⟨by kernel_rfl, ?_⟩) (by assumption) ?_
   rotate_left
   · intro w hSw
     unfold CW at hSw
     go_split_ands
     go_simp
     try with_reducible rfl
   try simp only [RegW.p]
   refine RegW.take (i:=4) (v:=?_) rfl (by kernel_rfl) (by kernel_rfl) (by kernel_rfl) (by kernel_rfl) (fun _ _ _ h => h) (Or.inl ⟨by kernel_rfl, ?_⟩) (by assumption) ?_
   rotate_left
   · intro w hSw
     unfold CW at hSw
     go_split_ands
     go_simp
     try with_reducible rfl
   try simp only [RegW.p]
   refine RegW.take (i:=5) (v:=?_) rfl (by kernel_rfl) (by kernel_rfl) (by kernel_rfl) (by kernel_rfl) (fun _ _ _ h => h) (Or.inl ⟨by kernel_rfl, ?_⟩) (by assumption) ?_
   rotate_left
   · intro w hSw
     unfold CW at hSw
     go_split_ands
     go_simp
     try with_reducible rfl
   try simp only [RegW.p]
   refine RegW.take (i:=7) (v:=?_) rfl (by kernel_rfl) (by kernel_rfl) (by kernel_rfl) (by kernel_rfl) (fun _ _ _ h => h) (Or.inl ⟨by kernel_rfl, ?_⟩) (by assumption) ?_
   rotate_left
   · intro w hSw
     unfold CW at hSw
     go_split_ands
     go_simp
     try with_reducible rfl
   try simp only [RegW.p]
   refine RegW.take (i:=8) (v:=?_) rfl (by kernel_rfl) (by kernel_rfl) (by kernel_rfl) (by kernel_rfl) (fun _ _ _ h => h) (Or.inl ⟨by kernel_rfl, ?_⟩) (by assumption) ?_
   rotate_left
   · intro w hSw
     unfold CW at hSw
     go_split_ands
     go_simp
     try with_reducible rfl
   try simp only [RegW.p]
   refine RegW.take (i:=9) (v:=?_) rfl (by kernel_rfl) (by kernel_rfl) (by kernel_rfl) (by kernel_rfl) (fun _ _ _ h => h) (Or.inl ⟨by kernel_rfl, ?_⟩) (by assumption) ?_
   rotate_left
   · intro w hSw
     unfold CW at hSw
     go_split_ands
     go_simp
     try with_reducible rfl
   try simp only [RegW.p]
   refine RegW.take (i:=10) (v:=?_) rfl (by kernel_rfl) (by kernel_rfl) (by kernel_rfl) (by kernel_rfl) (fun _ _ _ h => h) (Or.inl ⟨by kernel_rfl, ?_⟩) (by assumption) ?_
   rotate_left
   · intro w hSw
     unfold CW at hSw
     go_split_ands
     go_simp
     try with_reducible rfl
   try simp only [RegW.p]
   refine RegW.only (i:=6) rfl (by kernel_rfl) (fun K hK => ?_)
   go_simp
   go_at_call 14
   refine (c4 _).mono ?_
   rintro _ w8 ⟨rfl,rfl⟩
   refine hK.out _ _ hHeld (fun hHeld2 => ?_)
   clear hK K hHeld2
   try simp only [RegW.p]
   refine RegW.onlyS 11 rfl (by kernel_rfl) 9 _ _ rfl ⟨w4.heap.size,1,none⟩ (.string x1) (by go_simp) (by go_simp) (lone_store (qi_box HI) 9 one_s 1 (by show 1 < 6; decide) (.string x1) rfl) (by kernel_rfl) (cw_of (qi_set HI 1 (by decide) (.string x1) ⟨x0,x1,E0,0,E0,E0⟩ rfl)) ?_
   replace HI:=qi_set HI 1 (by decide) (.string x1) ⟨x0,x1,E0,0,E0,E0⟩ rfl
   obtain ⟨wr,hwn⟩:∃ W,W = wq.setCell ⟨w4.heap.size,1,none⟩ (.string x1):=⟨_,rfl⟩
   rw [<- hwn] at HI ⊢
   clear hwn
   clear hHeld
   have hHeld:=cw_of HI
   try simp only [RegW.p]
   refine RegW.take (i:=12) (v:=?_) rfl (by kernel_rfl) (by kernel_rfl) (by kernel_rfl) (by kernel_rfl) (fun _ _ _ h => h) (Or.inl ⟨by kernel_rfl, ?_⟩) (by assumption) ?_
   rotate_left
   · intro w hSw
     unfold CW at hSw
     go_split_ands
     go_simp
     try with_reducible rfl
   try simp only [RegW.p]
   refine RegW.onlyS 13 rfl (by kernel_rfl) 3 _ _ rfl ⟨w4.heap.size,3,none⟩ (.int .i64 F) (by go_simp) (by go_simp) (lone_store (qi_box HI) 3 one_i 3 (by show 3 < 6; decide) (.int .i64 F) rfl) (by kernel_rfl) (cw_of (qi_set HI 3 (by decide) (.int .i64 F) ⟨x0,x1,E0,F,E0,E0⟩ rfl)) ?_
   replace HI:=qi_set HI 3 (by decide) (.int .i64 F) ⟨x0,x1,E0,F,E0,E0⟩ rfl
   obtain ⟨ws,hwn⟩:∃ W,W = wr.setCell ⟨w4.heap.size,3,none⟩ (.int .i64 F):=⟨_,rfl⟩
   rw [<- hwn] at HI ⊢
   clear hwn
   clear hHeld
   have hHeld:=cw_of HI
   try simp only [RegW.p]
   refine RegW.take (i:=14) (v:=?_) rfl (by kernel_rfl) (by kernel_rfl) (by kernel_rfl) (by kernel_rfl) (fun _ _ _ h => h) (Or.inl ⟨by kernel_rfl, ?_⟩) (by assumption) ?_
   rotate_left
   · intro w hSw
     unfold CW at hSw
     go_split_ands
     go_simp
     try with_reducible rfl
   try simp only [RegW.p]
   refine RegW.last rfl (by kernel_rfl) (by kernel_rfl) ?_
   clear hHeld
   have k4:=qi_cells HI 4 _ rfl
   replace HI:=qi_set HI 4 (by decide) (.string x4) ⟨x0,x1,E0,F,x4,E0⟩ rfl
   have m3:=qi_word HI 3 _ rfl
   go_wp2_with fail
   clear k4 m3
   refine c6.calls0 ?_
   intro w7 h7
   replace HI:=qi_step h7 HI
   clear h7
   have k5:=qi_cells HI 5 _ rfl
   replace HI:=qi_set HI 5 (by decide) (.string Y3) ⟨x0,x1,E0,F,x4,Y3⟩ rfl
   have n0:=(qi_cells HI 0 _ rfl).1
   have n1:=(qi_cells HI 1 _ rfl).1
   have n2:=(qi_cells HI 2 _ rfl).1
   have n3:=(qi_cells HI 3 _ rfl).1
   have n4:=(qi_cells HI 4 _ rfl).1
   have n5:=(qi_cells HI 5 _ rfl).1
   go_wp2_with fail
   try clear n0 n1 n2 n3 n4 n5
   have c5:=rtext_k _ HCZ.out.1 HCZ.out.2.1 HCZ.out.2.2.1 HCZ.out.2.2.2
   rw [<- HCR.out] at c5
   obtain ⟨Y,hY⟩:∃ Y,Y = bs (textV Rok (candR t.data.toList)):=⟨_,rfl⟩
   rw [<- hY] at c5
   have hYl:Y.data.toList = textV Rok (candR t.data.toList):=by rw [hY,list_bs]
   have HYL:=lH hYl
   rw [HCR.out,HC.out] at c5
   clear hY hYl
   by_cases h0:Y.data.toList = []
   · have q0:(Y.toList == ([]:List UInt8)) = true:=by rw [toList_d,h0]; rfl
     have HV:Hid (R = (noS,5)):=lH (by
       rw [HR.out]
       unfold parsV
       rw [if_neg (show ¬ 40000 < t.data.toList.length from HM.out),if_neg (fun h9 => h9.1 (by rw [<- h9.2,<- HYL.out]; exact h0))])
     clear h0
     have hone:=s6_one noS
     refine c5.calls0 (Kp.keep HT.out HI.out.since) ?_
     intro wz hz
     replace HI:=qi_step hz HI
     replace HS:=lH HI.out.since
     have hg:=lH (qi_res HI)
     clear hz c5
     unfold sc noS E0 at hg hone
     go_wp2_with (refine RwL.at_store (ty:=23) rfl ?_; refine wpList_store_row rfl 23 _ _ rfl w.heap.size #[.string ⟨#[]⟩,.string ⟨#[]⟩,.string ⟨#[]⟩,.int .i64 0,.string ⟨#[]⟩,.string ⟨#[]⟩] (by rfl) (by rfl) _ _ hg.out (rs6_info _ _ _ _ _ _) rfl hone ?_)
     exact bodyPost_ret (v:=.tuple #[.agg #[.string ⟨#[]⟩,.string ⟨#[]⟩,.string ⟨#[]⟩,.int .i64 0,.string ⟨#[]⟩,.string ⟨#[]⟩],.int .i64 5]) (results_cell_tmp2 Tryz.results8 _ _ _ _ _ _ _ _ rfl rfl (setRow_heap _ _ _ _ _ _ hg.out) Tryz.underlying23 rfl (rs6_info _ _ _ _ _ _)) rfl ⟨by rw [HV.out]; rfl,below_setRow HS.out (Nat.le_refl _) _⟩
   have q0:(Y.toList == ([]:List UInt8)) = false:=by rw [toList_d]; exact beq_eq_false_iff_ne.2 h0
   by_cases hq:Y.data.toList = t.data.toList
   · have q1:(Y.toList == t.toList) = true:=by rw [toList_d,toList_d,hq]; exact beq_self_eq_true _
     have HV:Hid (R = (candR t.data.toList,0)):=lH (by
       rw [HR.out]
       unfold parsV
       rw [if_neg (show ¬ 40000 < t.data.toList.length from HM.out),if_pos ⟨by rw [<- hq]; exact h0,by rw [<- HYL.out]; exact hq⟩])
     rw [HCR.out,HC.out] at HV
     clear h0 hq
     refine c5.calls0 (Kp.keep HT.out HI.out.since) ?_
     intro wz hz
     replace HI:=qi_step hz HI
     replace HS:=lH HI.out.since
     have hg:=lH (qi_res HI)
     have n0:=(qi_cells HI 0 _ rfl).1
     have n1:=(qi_cells HI 1 _ rfl).1
     have n2:=(qi_cells HI 2 _ rfl).1
     have n3:=(qi_cells HI 3 _ rfl).1
     have n4:=(qi_cells HI 4 _ rfl).1
     have n5:=(qi_cells HI 5 _ rfl).1
     have hone:=s6_one ⟨x0,x1,E0,F,x4,Y3⟩
     clear hz c5
     unfold sc noS E0 at hg
     unfold sc at hone
     go_wp2_with (refine RwL.at_store (ty:=23) rfl ?_; refine wpList_store_row rfl 23 _ _ rfl w.heap.size #[.string x0,.string x1,.string E0,.int .i64 F,.string x4,.string Y3] (by rfl) (by rfl) _ _ hg.out (rs6_info _ _ _ _ _ _) rfl hone ?_)
     exact bodyPost_ret (v:=.tuple #[.agg #[.string x0,.string x1,.string E0,.int .i64 F,.string x4,.string Y3],.int .i64 0]) (results_cell_tmp2 Tryz.results8 _ _ _ _ _ _ _ _ rfl rfl (setRow_heap _ _ _ _ _ _ hg.out) Tryz.underlying23 rfl (rs6_info _ _ _ _ _ _)) rfl ⟨by rw [HV.out]; rfl,below_setRow HS.out (Nat.le_refl _) _⟩
   · have q1:(Y.toList == t.toList) = false:=by rw [toList_d,toList_d]; exact beq_eq_false_iff_ne.2 hq
     have HV:Hid (R = (noS,5)):=lH (by
       rw [HR.out]
       unfold parsV
       rw [if_neg (show ¬ 40000 < t.data.toList.length from HM.out),if_neg (fun h9 => hq (by rw [HYL.out]; exact h9.2))])
     clear h0 hq
     have hone:=s6_one noS
     refine c5.calls0 (Kp.keep HT.out HI.out.since) ?_
     intro wz hz
     replace HI:=qi_step hz HI
     replace HS:=lH HI.out.since
     have hg:=lH (qi_res HI)
     clear hz c5
     unfold sc noS E0 at hg hone
     go_wp2_with (refine RwL.at_store (ty:=23) rfl ?_; refine wpList_store_row rfl 23 _ _ rfl w.heap.size #[.string ⟨#[]⟩,.string ⟨#[]⟩,.string ⟨#[]⟩,.int .i64 0,.string ⟨#[]⟩,.string ⟨#[]⟩] (by rfl) (by rfl) _ _ hg.out (rs6_info _ _ _ _ _ _) rfl hone ?_)
     exact bodyPost_ret (v:=.tuple #[.agg #[.string ⟨#[]⟩,.string ⟨#[]⟩,.string ⟨#[]⟩,.int .i64 0,.string ⟨#[]⟩,.string ⟨#[]⟩],.int .i64 5]) (results_cell_tmp2 Tryz.results8 _ _ _ _ _ _ _ _ rfl rfl (setRow_heap _ _ _ _ _ _ hg.out) Tryz.underlying23 rfl (rs6_info _ _ _ _ _ _)) rfl ⟨by rw [HV.out]; rfl,below_setRow HS.out (Nat.le_refl _) _⟩
 have q10:(x0.toList == ([112,117,116]:List UInt8)) = false:=by rw [toList_d]; exact beq_eq_false_iff_ne.2 hv
 have h0:=hv
 clear hv
 by_cases hv:x0.data.toList = addL
 ·
   have q10:(x0.toList == ([112,117,116]:List UInt8)) = false:=by rw [toList_d,hv]; decide
   have q11:(x0.toList == ([97,100,100]:List UInt8)) = true:=by rw [toList_d,hv]; decide
   have c4:=rformat_ret x2
   obtain ⟨F,hF⟩:∃ F,F = fmtW x2.data.toList:=⟨_,rfl⟩
   obtain ⟨BB,c6⟩:=Rcd.runhex_m x3 (by have:=HZX.out; omega)
   obtain ⟨Y3,hY3⟩:∃ Y,Y = Dig.unS x3.data.toList:=⟨_,rfl⟩
   rw [<- hF] at c4
   rw [<- hY3] at c6
   have HC:Hid (candX x0 x1 x2 x3 x4 = ⟨x0,x1,E0,F,x4,Y3⟩):=lH (by rw [hF,hY3]; unfold candX; rw [hv,if_pos (by decide)])
   clear hv hF hY3
   go_wp2_with (at_builtin; refine app_rows elemS rfl _ _ (by rfl) w1 w2 _ rfl [] [] _ L.length _ (by rfl) HSR.out HS2.out #[.string ⟨#[]⟩,.string ⟨#[]⟩,.string ⟨#[]⟩,.string ⟨#[]⟩] 4 4 (by rfl) rfl four_one HB1.out HB2.out ?_; intro V3 w4 HQ HT2 _; have h98:=HQ.get; dsimp only at h98; obtain ⟨gw,c3,hV3⟩:=Rcd.own_addr h98 (Nat.succ_pos _); subst hV3; replace h98:=HQ.get; dsimp only at h98; rw [show L.map Value.string ++ (#[.string ⟨#[]⟩,.string ⟨#[]⟩,.string ⟨#[]⟩,.string ⟨#[]⟩]:Array Value).toList = (x0 :: x1 :: x2 :: x3 :: x4 :: T).map Value.string by rw [<- HL5.out,List.map_append]; rfl,<- HN.out] at h98; rw [<- HN.out]; have HI:=lH (qi_new HLR.out HS.out HT2 h98 ⟨x0,E0,E0,0,E0,E0⟩); have HK:=lH (fun S:St => qi_new HLR.out HS.out HT2 h98 S); have m0:=Rcd.own_cell h98 0 (.string x0) rfl; have m1:(w4.alloc (.cells #[.string x0,.string ⟨#[]⟩,.string ⟨#[]⟩,.int .i64 0,.string ⟨#[]⟩,.string ⟨#[]⟩] 23)).cell? ⟨gw,1,none⟩ = some (.string x1):=qi_word HI 1 x1 rfl; clear HQ HT2 h98)
   clear m0 m1
   try clear HI
   obtain ⟨wb,hwb⟩:∃ W,W = w4.alloc (.cells (sc ⟨x0,E0,E0,0,E0,E0⟩).toArray 23):=⟨_,rfl⟩
   rw [show w4.alloc (.cells #[.string x0,.string ⟨#[]⟩,.string ⟨#[]⟩,.int .i64 0,.string ⟨#[]⟩,.string ⟨#[]⟩] 23) = wb from hwb.symm]
   have HI:=lH (HK.out ⟨x0,E0,E0,0,E0,E0⟩)
   rw [<- hwb] at HI
   clear hwb HK
   refine RegW.start (CW gw x1 x2 x4) 15 (by kernel_rfl) (cw_of (qi_drew HI)) (fun hHeld => ?_)
   replace HI:=qi_drew HI
   obtain ⟨wq,hwq⟩:∃ W,W = wb.drew:=⟨_,rfl⟩
   rw [<- hwq] at HI hHeld ⊢
   clear hwq
   refine RegW.take (i:=0) (v:=?_) rfl (by kernel_rfl) (by kernel_rfl) (by kernel_rfl) (by kernel_rfl) (fun _ _ _ h => h) (Or.inl ⟨by kernel_rfl, ?_⟩) (by assumption) ?_
   rotate_left
   · intro w hSw
     unfold CW at hSw
     go_split_ands
     go_simp
     try with_reducible rfl
   try simp only [RegW.p]
   refine RegW.take (i:=1) (v:=?_) rfl (by kernel_rfl) (by kernel_rfl) (by kernel_rfl) (by kernel_rfl) (fun _ _ _ h => h) (Or.inl ⟨by kernel_rfl, ?_⟩) (by assumption) ?_
   rotate_left
   · intro w hSw
     unfold CW at hSw
     go_split_ands
     go_simp
     try with_reducible rfl
   try simp only [RegW.p]
   refine RegW.take (i:=2) (v:=?_) rfl (by kernel_rfl) (by kernel_rfl) (by kernel_rfl) (by kernel_rfl) (fun _ _ _ h => h) (Or.inl ⟨by kernel_rfl, ?_⟩) (by assumption) ?_
   rotate_left
   · intro w hSw
     unfold CW at hSw
     go_split_ands
     go_simp
     try with_reducible rfl
   try simp only [RegW.p]
   refine RegW.take (i:=3) (v:=?_) rfl (by kernel_rfl) (by kernel_rfl) (by kernel_rfl) (by kernel_rfl) (fun _ _ _ h => h) (Or.inl ⟨by kernel_rfl, ?_⟩) (by assumption) ?_
   rotate_left
   · intro w hSw
     unfold CW at hSw
     go_split_ands
     go_simp
     try with_reducible rfl
   try simp only [RegW.p]
   refine RegW.take (i:=4) (v:=?_) rfl (by kernel_rfl) (by kernel_rfl) (by kernel_rfl) (by kernel_rfl) (fun _ _ _ h => h) (Or.inl ⟨by kernel_rfl, ?_⟩) (by assumption) ?_
   rotate_left
   · intro w hSw
     unfold CW at hSw
     go_split_ands
     go_simp
     try with_reducible rfl
   try simp only [RegW.p]
   refine RegW.take (i:=5) (v:=?_) rfl (by kernel_rfl) (by kernel_rfl) (by kernel_rfl) (by kernel_rfl) (fun _ _ _ h => h) (Or.inl ⟨by kernel_rfl, ?_⟩) (by assumption) ?_
   rotate_left
   · intro w hSw
     unfold CW at hSw
     go_split_ands
     go_simp
     try with_reducible rfl
   try simp only [RegW.p]
   refine RegW.take (i:=7) (v:=?_) rfl (by kernel_rfl) (by kernel_rfl) (by kernel_rfl) (by kernel_rfl) (fun _ _ _ h => h) (Or.inl ⟨by kernel_rfl, ?_⟩) (by assumption) ?_
   rotate_left
   · intro w hSw
     unfold CW at hSw
     go_split_ands
     go_simp
     try with_reducible rfl
   try simp only [RegW.p]
   refine RegW.take (i:=8) (v:=?_) rfl (by kernel_rfl) (by kernel_rfl) (by kernel_rfl) (by kernel_rfl) (fun _ _ _ h => h) (Or.inl ⟨by kernel_rfl, ?_⟩) (by assumption) ?_
   rotate_left
   · intro w hSw
     unfold CW at hSw
     go_split_ands
     go_simp
     try with_reducible rfl
   try simp only [RegW.p]
   refine RegW.take (i:=9) (v:=?_) rfl (by kernel_rfl) (by kernel_rfl) (by kernel_rfl) (by kernel_rfl) (fun _ _ _ h => h) (Or.inl ⟨by kernel_rfl, ?_⟩) (by assumption) ?_
   rotate_left
   · intro w hSw
     unfold CW at hSw
     go_split_ands
     go_simp
     try with_reducible rfl
   try simp only [RegW.p]
   refine RegW.take (i:=10) (v:=?_) rfl (by kernel_rfl) (by kernel_rfl) (by kernel_rfl) (by kernel_rfl) (fun _ _ _ h => h) (Or.inl ⟨by kernel_rfl, ?_⟩) (by assumption) ?_
   rotate_left
   · intro w hSw
     unfold CW at hSw
     go_split_ands
     go_simp
     try with_reducible rfl
   try simp only [RegW.p]
   refine RegW.only (i:=6) rfl (by kernel_rfl) (fun K hK => ?_)
   go_simp
   go_at_call 14
   refine (c4 _).mono ?_
   rintro _ w8 ⟨rfl,rfl⟩
   refine hK.out _ _ hHeld (fun hHeld2 => ?_)
   clear hK K hHeld2
   try simp only [RegW.p]
   refine RegW.onlyS 11 rfl (by kernel_rfl) 9 _ _ rfl ⟨w4.heap.size,1,none⟩ (.string x1) (by go_simp) (by go_simp) (lone_store (qi_box HI) 9 one_s 1 (by show 1 < 6; decide) (.string x1) rfl) (by kernel_rfl) (cw_of (qi_set HI 1 (by decide) (.string x1) ⟨x0,x1,E0,0,E0,E0⟩ rfl)) ?_
   replace HI:=qi_set HI 1 (by decide) (.string x1) ⟨x0,x1,E0,0,E0,E0⟩ rfl
   obtain ⟨wr,hwn⟩:∃ W,W = wq.setCell ⟨w4.heap.size,1,none⟩ (.string x1):=⟨_,rfl⟩
   rw [<- hwn] at HI ⊢
   clear hwn
   clear hHeld
   have hHeld:=cw_of HI
   try simp only [RegW.p]
   refine RegW.take (i:=12) (v:=?_) rfl (by kernel_rfl) (by kernel_rfl) (by kernel_rfl) (by kernel_rfl) (fun _ _ _ h => h) (Or.inl ⟨by kernel_rfl, ?_⟩) (by assumption) ?_
   rotate_left
   · intro w hSw
     unfold CW at hSw
     go_split_ands
     go_simp
     try with_reducible rfl
   try simp only [RegW.p]
   refine RegW.onlyS 13 rfl (by kernel_rfl) 3 _ _ rfl ⟨w4.heap.size,3,none⟩ (.int .i64 F) (by go_simp) (by go_simp) (lone_store (qi_box HI) 3 one_i 3 (by show 3 < 6; decide) (.int .i64 F) rfl) (by kernel_rfl) (cw_of (qi_set HI 3 (by decide) (.int .i64 F) ⟨x0,x1,E0,F,E0,E0⟩ rfl)) ?_
   replace HI:=qi_set HI 3 (by decide) (.int .i64 F) ⟨x0,x1,E0,F,E0,E0⟩ rfl
   obtain ⟨ws,hwn⟩:∃ W,W = wr.setCell ⟨w4.heap.size,3,none⟩ (.int .i64 F):=⟨_,rfl⟩
   rw [<- hwn] at HI ⊢
   clear hwn
   clear hHeld
   have hHeld:=cw_of HI
   try simp only [RegW.p]
   refine RegW.take (i:=14) (v:=?_) rfl (by kernel_rfl) (by kernel_rfl) (by kernel_rfl) (by kernel_rfl) (fun _ _ _ h => h) (Or.inl ⟨by kernel_rfl, ?_⟩) (by assumption) ?_
   rotate_left
   · intro w hSw
     unfold CW at hSw
     go_split_ands
     go_simp
     try with_reducible rfl
   try simp only [RegW.p]
   refine RegW.last rfl (by kernel_rfl) (by kernel_rfl) ?_
   clear hHeld
   have k4:=qi_cells HI 4 _ rfl
   replace HI:=qi_set HI 4 (by decide) (.string x4) ⟨x0,x1,E0,F,x4,E0⟩ rfl
   have m3:=qi_word HI 3 _ rfl
   go_wp2_with fail
   clear k4 m3
   refine c6.calls0 ?_
   intro w7 h7
   replace HI:=qi_step h7 HI
   clear h7
   have k5:=qi_cells HI 5 _ rfl
   replace HI:=qi_set HI 5 (by decide) (.string Y3) ⟨x0,x1,E0,F,x4,Y3⟩ rfl
   have n0:=(qi_cells HI 0 _ rfl).1
   have n1:=(qi_cells HI 1 _ rfl).1
   have n2:=(qi_cells HI 2 _ rfl).1
   have n3:=(qi_cells HI 3 _ rfl).1
   have n4:=(qi_cells HI 4 _ rfl).1
   have n5:=(qi_cells HI 5 _ rfl).1
   go_wp2_with fail
   try clear n0 n1 n2 n3 n4 n5
   have c5:=rtext_k _ HCZ.out.1 HCZ.out.2.1 HCZ.out.2.2.1 HCZ.out.2.2.2
   rw [<- HCR.out] at c5
   obtain ⟨Y,hY⟩:∃ Y,Y = bs (textV Rok (candR t.data.toList)):=⟨_,rfl⟩
   rw [<- hY] at c5
   have hYl:Y.data.toList = textV Rok (candR t.data.toList):=by rw [hY,list_bs]
   have HYL:=lH hYl
   rw [HCR.out,HC.out] at c5
   clear hY hYl
   by_cases h0:Y.data.toList = []
   · have q0:(Y.toList == ([]:List UInt8)) = true:=by rw [toList_d,h0]; rfl
     have HV:Hid (R = (noS,5)):=lH (by
       rw [HR.out]
       unfold parsV
       rw [if_neg (show ¬ 40000 < t.data.toList.length from HM.out),if_neg (fun h9 => h9.1 (by rw [<- h9.2,<- HYL.out]; exact h0))])
     clear h0
     have hone:=s6_one noS
     refine c5.calls0 (Kp.keep HT.out HI.out.since) ?_
     intro wz hz
     replace HI:=qi_step hz HI
     replace HS:=lH HI.out.since
     have hg:=lH (qi_res HI)
     clear hz c5
     unfold sc noS E0 at hg hone
     go_wp2_with (refine RwL.at_store (ty:=23) rfl ?_; refine wpList_store_row rfl 23 _ _ rfl w.heap.size #[.string ⟨#[]⟩,.string ⟨#[]⟩,.string ⟨#[]⟩,.int .i64 0,.string ⟨#[]⟩,.string ⟨#[]⟩] (by rfl) (by rfl) _ _ hg.out (rs6_info _ _ _ _ _ _) rfl hone ?_)
     exact bodyPost_ret (v:=.tuple #[.agg #[.string ⟨#[]⟩,.string ⟨#[]⟩,.string ⟨#[]⟩,.int .i64 0,.string ⟨#[]⟩,.string ⟨#[]⟩],.int .i64 5]) (results_cell_tmp2 Tryz.results8 _ _ _ _ _ _ _ _ rfl rfl (setRow_heap _ _ _ _ _ _ hg.out) Tryz.underlying23 rfl (rs6_info _ _ _ _ _ _)) rfl ⟨by rw [HV.out]; rfl,below_setRow HS.out (Nat.le_refl _) _⟩
   have q0:(Y.toList == ([]:List UInt8)) = false:=by rw [toList_d]; exact beq_eq_false_iff_ne.2 h0
   by_cases hq:Y.data.toList = t.data.toList
   · have q1:(Y.toList == t.toList) = true:=by rw [toList_d,toList_d,hq]; exact beq_self_eq_true _
     have HV:Hid (R = (candR t.data.toList,0)):=lH (by
       rw [HR.out]
       unfold parsV
       rw [if_neg (show ¬ 40000 < t.data.toList.length from HM.out),if_pos ⟨by rw [<- hq]; exact h0,by rw [<- HYL.out]; exact hq⟩])
     rw [HCR.out,HC.out] at HV
     clear h0 hq
     refine c5.calls0 (Kp.keep HT.out HI.out.since) ?_
     intro wz hz
     replace HI:=qi_step hz HI
     replace HS:=lH HI.out.since
     have hg:=lH (qi_res HI)
     have n0:=(qi_cells HI 0 _ rfl).1
     have n1:=(qi_cells HI 1 _ rfl).1
     have n2:=(qi_cells HI 2 _ rfl).1
     have n3:=(qi_cells HI 3 _ rfl).1
     have n4:=(qi_cells HI 4 _ rfl).1
     have n5:=(qi_cells HI 5 _ rfl).1
     have hone:=s6_one ⟨x0,x1,E0,F,x4,Y3⟩
     clear hz c5
     unfold sc noS E0 at hg
     unfold sc at hone
     go_wp2_with (refine RwL.at_store (ty:=23) rfl ?_; refine wpList_store_row rfl 23 _ _ rfl w.heap.size #[.string x0,.string x1,.string E0,.int .i64 F,.string x4,.string Y3] (by rfl) (by rfl) _ _ hg.out (rs6_info _ _ _ _ _ _) rfl hone ?_)
     exact bodyPost_ret (v:=.tuple #[.agg #[.string x0,.string x1,.string E0,.int .i64 F,.string x4,.string Y3],.int .i64 0]) (results_cell_tmp2 Tryz.results8 _ _ _ _ _ _ _ _ rfl rfl (setRow_heap _ _ _ _ _ _ hg.out) Tryz.underlying23 rfl (rs6_info _ _ _ _ _ _)) rfl ⟨by rw [HV.out]; rfl,below_setRow HS.out (Nat.le_refl _) _⟩
   · have q1:(Y.toList == t.toList) = false:=by rw [toList_d,toList_d]; exact beq_eq_false_iff_ne.2 hq
     have HV:Hid (R = (noS,5)):=lH (by
       rw [HR.out]
       unfold parsV
       rw [if_neg (show ¬ 40000 < t.data.toList.length from HM.out),if_neg (fun h9 => hq (by rw [HYL.out]; exact h9.2))])
     clear h0 hq
     have hone:=s6_one noS
     refine c5.calls0 (Kp.keep HT.out HI.out.since) ?_
     intro wz hz
     replace HI:=qi_step hz HI
     replace HS:=lH HI.out.since
     have hg:=lH (qi_res HI)
     clear hz c5
     unfold sc noS E0 at hg hone
     go_wp2_with (refine RwL.at_store (ty:=23) rfl ?_; refine wpList_store_row rfl 23 _ _ rfl w.heap.size #[.string ⟨#[]⟩,.string ⟨#[]⟩,.string ⟨#[]⟩,.int .i64 0,.string ⟨#[]⟩,.string ⟨#[]⟩] (by rfl) (by rfl) _ _ hg.out (rs6_info _ _ _ _ _ _) rfl hone ?_)
     exact bodyPost_ret (v:=.tuple #[.agg #[.string ⟨#[]⟩,.string ⟨#[]⟩,.string ⟨#[]⟩,.int .i64 0,.string ⟨#[]⟩,.string ⟨#[]⟩],.int .i64 5]) (results_cell_tmp2 Tryz.results8 _ _ _ _ _ _ _ _ rfl rfl (setRow_heap _ _ _ _ _ _ hg.out) Tryz.underlying23 rfl (rs6_info _ _ _ _ _ _)) rfl ⟨by rw [HV.out]; rfl,below_setRow HS.out (Nat.le_refl _) _⟩
 have q11:(x0.toList == ([97,100,100]:List UInt8)) = false:=by rw [toList_d]; exact beq_eq_false_iff_ne.2 hv
 have h1:=hv
 clear hv
 by_cases hv:x0.data.toList = getL
 ·
   have q10:(x0.toList == ([112,117,116]:List UInt8)) = false:=by rw [toList_d,hv]; decide
   have q11:(x0.toList == ([97,100,100]:List UInt8)) = false:=by rw [toList_d,hv]; decide
   have q12:(x0.toList == ([103,101,116]:List UInt8)) = true:=by rw [toList_d,hv]; decide
   have HC:Hid (candX x0 x1 x2 x3 x4 = ⟨x0,x1,E0,0,E0,E0⟩):=lH (by unfold candX; rw [hv,if_neg (by decide),if_pos (by decide)])
   clear hv
   go_wp2_with (at_builtin; refine app_rows elemS rfl _ _ (by rfl) w1 w2 _ rfl [] [] _ L.length _ (by rfl) HSR.out HS2.out #[.string ⟨#[]⟩,.string ⟨#[]⟩,.string ⟨#[]⟩,.string ⟨#[]⟩] 4 4 (by rfl) rfl four_one HB1.out HB2.out ?_; intro V3 w4 HQ HT2 _; have h98:=HQ.get; dsimp only at h98; obtain ⟨gw,c3,hV3⟩:=Rcd.own_addr h98 (Nat.succ_pos _); subst hV3; replace h98:=HQ.get; dsimp only at h98; rw [show L.map Value.string ++ (#[.string ⟨#[]⟩,.string ⟨#[]⟩,.string ⟨#[]⟩,.string ⟨#[]⟩]:Array Value).toList = (x0 :: x1 :: x2 :: x3 :: x4 :: T).map Value.string by rw [<- HL5.out,List.map_append]; rfl,<- HN.out] at h98; rw [<- HN.out]; have HI:=lH (qi_new HLR.out HS.out HT2 h98 ⟨x0,E0,E0,0,E0,E0⟩); have HK:=lH (fun S:St => qi_new HLR.out HS.out HT2 h98 S); have m0:=Rcd.own_cell h98 0 (.string x0) rfl; have m1:(w4.alloc (.cells #[.string x0,.string ⟨#[]⟩,.string ⟨#[]⟩,.int .i64 0,.string ⟨#[]⟩,.string ⟨#[]⟩] 23)).cell? ⟨gw,1,none⟩ = some (.string x1):=qi_word HI 1 x1 rfl; clear HQ HT2 h98)
   clear m0 m1
   try clear HI
   obtain ⟨wb,hwb⟩:∃ W,W = w4.alloc (.cells (sc ⟨x0,x1,E0,0,E0,E0⟩).toArray 23):=⟨_,rfl⟩
   rw [show w4.alloc (.cells #[.string x0,.string x1,.string ⟨#[]⟩,.int .i64 0,.string ⟨#[]⟩,.string ⟨#[]⟩] 23) = wb from hwb.symm]
   have HI:=lH (HK.out ⟨x0,x1,E0,0,E0,E0⟩)
   rw [<- hwb] at HI
   clear hwb HK
   try clear n0 n1 n2 n3 n4 n5
   have c5:=rtext_k _ HCZ.out.1 HCZ.out.2.1 HCZ.out.2.2.1 HCZ.out.2.2.2
   rw [<- HCR.out] at c5
   obtain ⟨Y,hY⟩:∃ Y,Y = bs (textV Rok (candR t.data.toList)):=⟨_,rfl⟩
   rw [<- hY] at c5
   have hYl:Y.data.toList = textV Rok (candR t.data.toList):=by rw [hY,list_bs]
   have HYL:=lH hYl
   rw [HCR.out,HC.out] at c5
   clear hY hYl
   by_cases h0:Y.data.toList = []
   · have q0:(Y.toList == ([]:List UInt8)) = true:=by rw [toList_d,h0]; rfl
     have HV:Hid (R = (noS,5)):=lH (by
       rw [HR.out]
       unfold parsV
       rw [if_neg (show ¬ 40000 < t.data.toList.length from HM.out),if_neg (fun h9 => h9.1 (by rw [<- h9.2,<- HYL.out]; exact h0))])
     clear h0
     have hone:=s6_one noS
     refine c5.calls0 (Kp.keep HT.out HI.out.since) ?_
     intro wz hz
     replace HI:=qi_step hz HI
     replace HS:=lH HI.out.since
     have hg:=lH (qi_res HI)
     clear hz c5
     unfold sc noS E0 at hg hone
     go_wp2_with (refine RwL.at_store (ty:=23) rfl ?_; refine wpList_store_row rfl 23 _ _ rfl w.heap.size #[.string ⟨#[]⟩,.string ⟨#[]⟩,.string ⟨#[]⟩,.int .i64 0,.string ⟨#[]⟩,.string ⟨#[]⟩] (by rfl) (by rfl) _ _ hg.out (rs6_info _ _ _ _ _ _) rfl hone ?_)
     exact bodyPost_ret (v:=.tuple #[.agg #[.string ⟨#[]⟩,.string ⟨#[]⟩,.string ⟨#[]⟩,.int .i64 0,.string ⟨#[]⟩,.string ⟨#[]⟩],.int .i64 5]) (results_cell_tmp2 Tryz.results8 _ _ _ _ _ _ _ _ rfl rfl (setRow_heap _ _ _ _ _ _ hg.out) Tryz.underlying23 rfl (rs6_info _ _ _ _ _ _)) rfl ⟨by rw [HV.out]; rfl,below_setRow HS.out (Nat.le_refl _) _⟩
   have q0:(Y.toList == ([]:List UInt8)) = false:=by rw [toList_d]; exact beq_eq_false_iff_ne.2 h0
   by_cases hq:Y.data.toList = t.data.toList
   · have q1:(Y.toList == t.toList) = true:=by rw [toList_d,toList_d,hq]; exact beq_self_eq_true _
     have HV:Hid (R = (candR t.data.toList,0)):=lH (by
       rw [HR.out]
       unfold parsV
       rw [if_neg (show ¬ 40000 < t.data.toList.length from HM.out),if_pos ⟨by rw [<- hq]; exact h0,by rw [<- HYL.out]; exact hq⟩])
     rw [HCR.out,HC.out] at HV
     clear h0 hq
     refine c5.calls0 (Kp.keep HT.out HI.out.since) ?_
     intro wz hz
     replace HI:=qi_step hz HI
     replace HS:=lH HI.out.since
     have hg:=lH (qi_res HI)
     have n0:=(qi_cells HI 0 _ rfl).1
     have n1:=(qi_cells HI 1 _ rfl).1
     have n2:=(qi_cells HI 2 _ rfl).1
     have n3:=(qi_cells HI 3 _ rfl).1
     have n4:=(qi_cells HI 4 _ rfl).1
     have n5:=(qi_cells HI 5 _ rfl).1
     have hone:=s6_one ⟨x0,x1,E0,0,E0,E0⟩
     clear hz c5
     unfold sc noS E0 at hg
     unfold sc at hone
     go_wp2_with (refine RwL.at_store (ty:=23) rfl ?_; refine wpList_store_row rfl 23 _ _ rfl w.heap.size #[.string x0,.string x1,.string E0,.int .i64 0,.string E0,.string E0] (by rfl) (by rfl) _ _ hg.out (rs6_info _ _ _ _ _ _) rfl hone ?_)
     exact bodyPost_ret (v:=.tuple #[.agg #[.string x0,.string x1,.string E0,.int .i64 0,.string E0,.string E0],.int .i64 0]) (results_cell_tmp2 Tryz.results8 _ _ _ _ _ _ _ _ rfl rfl (setRow_heap _ _ _ _ _ _ hg.out) Tryz.underlying23 rfl (rs6_info _ _ _ _ _ _)) rfl ⟨by rw [HV.out]; rfl,below_setRow HS.out (Nat.le_refl _) _⟩
   · have q1:(Y.toList == t.toList) = false:=by rw [toList_d,toList_d]; exact beq_eq_false_iff_ne.2 hq
     have HV:Hid (R = (noS,5)):=lH (by
       rw [HR.out]
       unfold parsV
       rw [if_neg (show ¬ 40000 < t.data.toList.length from HM.out),if_neg (fun h9 => hq (by rw [HYL.out]; exact h9.2))])
     clear h0 hq
     have hone:=s6_one noS
     refine c5.calls0 (Kp.keep HT.out HI.out.since) ?_
     intro wz hz
     replace HI:=qi_step hz HI
     replace HS:=lH HI.out.since
     have hg:=lH (qi_res HI)
     clear hz c5
     unfold sc noS E0 at hg hone
     go_wp2_with (refine RwL.at_store (ty:=23) rfl ?_; refine wpList_store_row rfl 23 _ _ rfl w.heap.size #[.string ⟨#[]⟩,.string ⟨#[]⟩,.string ⟨#[]⟩,.int .i64 0,.string ⟨#[]⟩,.string ⟨#[]⟩] (by rfl) (by rfl) _ _ hg.out (rs6_info _ _ _ _ _ _) rfl hone ?_)
     exact bodyPost_ret (v:=.tuple #[.agg #[.string ⟨#[]⟩,.string ⟨#[]⟩,.string ⟨#[]⟩,.int .i64 0,.string ⟨#[]⟩,.string ⟨#[]⟩],.int .i64 5]) (results_cell_tmp2 Tryz.results8 _ _ _ _ _ _ _ _ rfl rfl (setRow_heap _ _ _ _ _ _ hg.out) Tryz.underlying23 rfl (rs6_info _ _ _ _ _ _)) rfl ⟨by rw [HV.out]; rfl,below_setRow HS.out (Nat.le_refl _) _⟩
 have q12:(x0.toList == ([103,101,116]:List UInt8)) = false:=by rw [toList_d]; exact beq_eq_false_iff_ne.2 hv
 have h2:=hv
 clear hv
 by_cases hv:x0.data.toList = expL
 ·
   have q10:(x0.toList == ([112,117,116]:List UInt8)) = false:=by rw [toList_d,hv]; decide
   have q11:(x0.toList == ([97,100,100]:List UInt8)) = false:=by rw [toList_d,hv]; decide
   have q12:(x0.toList == ([103,101,116]:List UInt8)) = false:=by rw [toList_d,hv]; decide
   have q13:(x0.toList == ([101,120,112,111,114,116]:List UInt8)) = true:=by rw [toList_d,hv]; decide
   have HC:Hid (candX x0 x1 x2 x3 x4 = ⟨x0,x1,E0,0,E0,E0⟩):=lH (by unfold candX; rw [hv,if_neg (by decide),if_pos (by decide)])
   clear hv
   go_wp2_with (at_builtin; refine app_rows elemS rfl _ _ (by rfl) w1 w2 _ rfl [] [] _ L.length _ (by rfl) HSR.out HS2.out #[.string ⟨#[]⟩,.string ⟨#[]⟩,.string ⟨#[]⟩,.string ⟨#[]⟩] 4 4 (by rfl) rfl four_one HB1.out HB2.out ?_; intro V3 w4 HQ HT2 _; have h98:=HQ.get; dsimp only at h98; obtain ⟨gw,c3,hV3⟩:=Rcd.own_addr h98 (Nat.succ_pos _); subst hV3; replace h98:=HQ.get; dsimp only at h98; rw [show L.map Value.string ++ (#[.string ⟨#[]⟩,.string ⟨#[]⟩,.string ⟨#[]⟩,.string ⟨#[]⟩]:Array Value).toList = (x0 :: x1 :: x2 :: x3 :: x4 :: T).map Value.string by rw [<- HL5.out,List.map_append]; rfl,<- HN.out] at h98; rw [<- HN.out]; have HI:=lH (qi_new HLR.out HS.out HT2 h98 ⟨x0,E0,E0,0,E0,E0⟩); have HK:=lH (fun S:St => qi_new HLR.out HS.out HT2 h98 S); have m0:=Rcd.own_cell h98 0 (.string x0) rfl; have m1:(w4.alloc (.cells #[.string x0,.string ⟨#[]⟩,.string ⟨#[]⟩,.int .i64 0,.string ⟨#[]⟩,.string ⟨#[]⟩] 23)).cell? ⟨gw,1,none⟩ = some (.string x1):=qi_word HI 1 x1 rfl; clear HQ HT2 h98)
   clear m0 m1
   try clear HI
   obtain ⟨wb,hwb⟩:∃ W,W = w4.alloc (.cells (sc ⟨x0,x1,E0,0,E0,E0⟩).toArray 23):=⟨_,rfl⟩
   rw [show w4.alloc (.cells #[.string x0,.string x1,.string ⟨#[]⟩,.int .i64 0,.string ⟨#[]⟩,.string ⟨#[]⟩] 23) = wb from hwb.symm]
   have HI:=lH (HK.out ⟨x0,x1,E0,0,E0,E0⟩)
   rw [<- hwb] at HI
   clear hwb HK
   try clear n0 n1 n2 n3 n4 n5
   have c5:=rtext_k _ HCZ.out.1 HCZ.out.2.1 HCZ.out.2.2.1 HCZ.out.2.2.2
   rw [<- HCR.out] at c5
   obtain ⟨Y,hY⟩:∃ Y,Y = bs (textV Rok (candR t.data.toList)):=⟨_,rfl⟩
   rw [<- hY] at c5
   have hYl:Y.data.toList = textV Rok (candR t.data.toList):=by rw [hY,list_bs]
   have HYL:=lH hYl
   rw [HCR.out,HC.out] at c5
   clear hY hYl
   by_cases h0:Y.data.toList = []
   · have q0:(Y.toList == ([]:List UInt8)) = true:=by rw [toList_d,h0]; rfl
     have HV:Hid (R = (noS,5)):=lH (by
       rw [HR.out]
       unfold parsV
       rw [if_neg (show ¬ 40000 < t.data.toList.length from HM.out),if_neg (fun h9 => h9.1 (by rw [<- h9.2,<- HYL.out]; exact h0))])
     clear h0
     have hone:=s6_one noS
     refine c5.calls0 (Kp.keep HT.out HI.out.since) ?_
     intro wz hz
     replace HI:=qi_step hz HI
     replace HS:=lH HI.out.since
     have hg:=lH (qi_res HI)
     clear hz c5
     unfold sc noS E0 at hg hone
     go_wp2_with (refine RwL.at_store (ty:=23) rfl ?_; refine wpList_store_row rfl 23 _ _ rfl w.heap.size #[.string ⟨#[]⟩,.string ⟨#[]⟩,.string ⟨#[]⟩,.int .i64 0,.string ⟨#[]⟩,.string ⟨#[]⟩] (by rfl) (by rfl) _ _ hg.out (rs6_info _ _ _ _ _ _) rfl hone ?_)
     exact bodyPost_ret (v:=.tuple #[.agg #[.string ⟨#[]⟩,.string ⟨#[]⟩,.string ⟨#[]⟩,.int .i64 0,.string ⟨#[]⟩,.string ⟨#[]⟩],.int .i64 5]) (results_cell_tmp2 Tryz.results8 _ _ _ _ _ _ _ _ rfl rfl (setRow_heap _ _ _ _ _ _ hg.out) Tryz.underlying23 rfl (rs6_info _ _ _ _ _ _)) rfl ⟨by rw [HV.out]; rfl,below_setRow HS.out (Nat.le_refl _) _⟩
   have q0:(Y.toList == ([]:List UInt8)) = false:=by rw [toList_d]; exact beq_eq_false_iff_ne.2 h0
   by_cases hq:Y.data.toList = t.data.toList
   · have q1:(Y.toList == t.toList) = true:=by rw [toList_d,toList_d,hq]; exact beq_self_eq_true _
     have HV:Hid (R = (candR t.data.toList,0)):=lH (by
       rw [HR.out]
       unfold parsV
       rw [if_neg (show ¬ 40000 < t.data.toList.length from HM.out),if_pos ⟨by rw [<- hq]; exact h0,by rw [<- HYL.out]; exact hq⟩])
     rw [HCR.out,HC.out] at HV
     clear h0 hq
     refine c5.calls0 (Kp.keep HT.out HI.out.since) ?_
     intro wz hz
     replace HI:=qi_step hz HI
     replace HS:=lH HI.out.since
     have hg:=lH (qi_res HI)
     have n0:=(qi_cells HI 0 _ rfl).1
     have n1:=(qi_cells HI 1 _ rfl).1
     have n2:=(qi_cells HI 2 _ rfl).1
     have n3:=(qi_cells HI 3 _ rfl).1
     have n4:=(qi_cells HI 4 _ rfl).1
     have n5:=(qi_cells HI 5 _ rfl).1
     have hone:=s6_one ⟨x0,x1,E0,0,E0,E0⟩
     clear hz c5
     unfold sc noS E0 at hg
     unfold sc at hone
     go_wp2_with (refine RwL.at_store (ty:=23) rfl ?_; refine wpList_store_row rfl 23 _ _ rfl w.heap.size #[.string x0,.string x1,.string E0,.int .i64 0,.string E0,.string E0] (by rfl) (by rfl) _ _ hg.out (rs6_info _ _ _ _ _ _) rfl hone ?_)
     exact bodyPost_ret (v:=.tuple #[.agg #[.string x0,.string x1,.string E0,.int .i64 0,.string E0,.string E0],.int .i64 0]) (results_cell_tmp2 Tryz.results8 _ _ _ _ _ _ _ _ rfl rfl (setRow_heap _ _ _ _ _ _ hg.out) Tryz.underlying23 rfl (rs6_info _ _ _ _ _ _)) rfl ⟨by rw [HV.out]; rfl,below_setRow HS.out (Nat.le_refl _) _⟩
   · have q1:(Y.toList == t.toList) = false:=by rw [toList_d,toList_d]; exact beq_eq_false_iff_ne.2 hq
     have HV:Hid (R = (noS,5)):=lH (by
       rw [HR.out]
       unfold parsV
       rw [if_neg (show ¬ 40000 < t.data.toList.length from HM.out),if_neg (fun h9 => hq (by rw [HYL.out]; exact h9.2))])
     clear h0 hq
     have hone:=s6_one noS
     refine c5.calls0 (Kp.keep HT.out HI.out.since) ?_
     intro wz hz
     replace HI:=qi_step hz HI
     replace HS:=lH HI.out.since
     have hg:=lH (qi_res HI)
     clear hz c5
     unfold sc noS E0 at hg hone
     go_wp2_with (refine RwL.at_store (ty:=23) rfl ?_; refine wpList_store_row rfl 23 _ _ rfl w.heap.size #[.string ⟨#[]⟩,.string ⟨#[]⟩,.string ⟨#[]⟩,.int .i64 0,.string ⟨#[]⟩,.string ⟨#[]⟩] (by rfl) (by rfl) _ _ hg.out (rs6_info _ _ _ _ _ _) rfl hone ?_)
     exact bodyPost_ret (v:=.tuple #[.agg #[.string ⟨#[]⟩,.string ⟨#[]⟩,.string ⟨#[]⟩,.int .i64 0,.string ⟨#[]⟩,.string ⟨#[]⟩],.int .i64 5]) (results_cell_tmp2 Tryz.results8 _ _ _ _ _ _ _ _ rfl rfl (setRow_heap _ _ _ _ _ _ hg.out) Tryz.underlying23 rfl (rs6_info _ _ _ _ _ _)) rfl ⟨by rw [HV.out]; rfl,below_setRow HS.out (Nat.le_refl _) _⟩
 have q13:(x0.toList == ([101,120,112,111,114,116]:List UInt8)) = false:=by rw [toList_d]; exact beq_eq_false_iff_ne.2 hv
 have h3:=hv
 clear hv
 by_cases hv:x0.data.toList = droL
 ·
   have q10:(x0.toList == ([112,117,116]:List UInt8)) = false:=by rw [toList_d,hv]; decide
   have q11:(x0.toList == ([97,100,100]:List UInt8)) = false:=by rw [toList_d,hv]; decide
   have q12:(x0.toList == ([103,101,116]:List UInt8)) = false:=by rw [toList_d,hv]; decide
   have q13:(x0.toList == ([101,120,112,111,114,116]:List UInt8)) = false:=by rw [toList_d,hv]; decide
   have q14:(x0.toList == ([100,114,111,112]:List UInt8)) = true:=by rw [toList_d,hv]; decide
   have HC:Hid (candX x0 x1 x2 x3 x4 = ⟨x0,x1,E0,0,E0,E0⟩):=lH (by unfold candX; rw [hv,if_neg (by decide),if_pos (by decide)])
   clear hv
   go_wp2_with (at_builtin; refine app_rows elemS rfl _ _ (by rfl) w1 w2 _ rfl [] [] _ L.length _ (by rfl) HSR.out HS2.out #[.string ⟨#[]⟩,.string ⟨#[]⟩,.string ⟨#[]⟩,.string ⟨#[]⟩] 4 4 (by rfl) rfl four_one HB1.out HB2.out ?_; intro V3 w4 HQ HT2 _; have h98:=HQ.get; dsimp only at h98; obtain ⟨gw,c3,hV3⟩:=Rcd.own_addr h98 (Nat.succ_pos _); subst hV3; replace h98:=HQ.get; dsimp only at h98; rw [show L.map Value.string ++ (#[.string ⟨#[]⟩,.string ⟨#[]⟩,.string ⟨#[]⟩,.string ⟨#[]⟩]:Array Value).toList = (x0 :: x1 :: x2 :: x3 :: x4 :: T).map Value.string by rw [<- HL5.out,List.map_append]; rfl,<- HN.out] at h98; rw [<- HN.out]; have HI:=lH (qi_new HLR.out HS.out HT2 h98 ⟨x0,E0,E0,0,E0,E0⟩); have HK:=lH (fun S:St => qi_new HLR.out HS.out HT2 h98 S); have m0:=Rcd.own_cell h98 0 (.string x0) rfl; have m1:(w4.alloc (.cells #[.string x0,.string ⟨#[]⟩,.string ⟨#[]⟩,.int .i64 0,.string ⟨#[]⟩,.string ⟨#[]⟩] 23)).cell? ⟨gw,1,none⟩ = some (.string x1):=qi_word HI 1 x1 rfl; clear HQ HT2 h98)
   clear m0 m1
   try clear HI
   obtain ⟨wb,hwb⟩:∃ W,W = w4.alloc (.cells (sc ⟨x0,x1,E0,0,E0,E0⟩).toArray 23):=⟨_,rfl⟩
   rw [show w4.alloc (.cells #[.string x0,.string x1,.string ⟨#[]⟩,.int .i64 0,.string ⟨#[]⟩,.string ⟨#[]⟩] 23) = wb from hwb.symm]
   have HI:=lH (HK.out ⟨x0,x1,E0,0,E0,E0⟩)
   rw [<- hwb] at HI
   clear hwb HK
   try clear n0 n1 n2 n3 n4 n5
   have c5:=rtext_k _ HCZ.out.1 HCZ.out.2.1 HCZ.out.2.2.1 HCZ.out.2.2.2
   rw [<- HCR.out] at c5
   obtain ⟨Y,hY⟩:∃ Y,Y = bs (textV Rok (candR t.data.toList)):=⟨_,rfl⟩
   rw [<- hY] at c5
   have hYl:Y.data.toList = textV Rok (candR t.data.toList):=by rw [hY,list_bs]
   have HYL:=lH hYl
   rw [HCR.out,HC.out] at c5
   clear hY hYl
   by_cases h0:Y.data.toList = []
   · have q0:(Y.toList == ([]:List UInt8)) = true:=by rw [toList_d,h0]; rfl
     have HV:Hid (R = (noS,5)):=lH (by
       rw [HR.out]
       unfold parsV
       rw [if_neg (show ¬ 40000 < t.data.toList.length from HM.out),if_neg (fun h9 => h9.1 (by rw [<- h9.2,<- HYL.out]; exact h0))])
     clear h0
     have hone:=s6_one noS
     refine c5.calls0 (Kp.keep HT.out HI.out.since) ?_
     intro wz hz
     replace HI:=qi_step hz HI
     replace HS:=lH HI.out.since
     have hg:=lH (qi_res HI)
     clear hz c5
     unfold sc noS E0 at hg hone
     go_wp2_with (refine RwL.at_store (ty:=23) rfl ?_; refine wpList_store_row rfl 23 _ _ rfl w.heap.size #[.string ⟨#[]⟩,.string ⟨#[]⟩,.string ⟨#[]⟩,.int .i64 0,.string ⟨#[]⟩,.string ⟨#[]⟩] (by rfl) (by rfl) _ _ hg.out (rs6_info _ _ _ _ _ _) rfl hone ?_)
     exact bodyPost_ret (v:=.tuple #[.agg #[.string ⟨#[]⟩,.string ⟨#[]⟩,.string ⟨#[]⟩,.int .i64 0,.string ⟨#[]⟩,.string ⟨#[]⟩],.int .i64 5]) (results_cell_tmp2 Tryz.results8 _ _ _ _ _ _ _ _ rfl rfl (setRow_heap _ _ _ _ _ _ hg.out) Tryz.underlying23 rfl (rs6_info _ _ _ _ _ _)) rfl ⟨by rw [HV.out]; rfl,below_setRow HS.out (Nat.le_refl _) _⟩
   have q0:(Y.toList == ([]:List UInt8)) = false:=by rw [toList_d]; exact beq_eq_false_iff_ne.2 h0
   by_cases hq:Y.data.toList = t.data.toList
   · have q1:(Y.toList == t.toList) = true:=by rw [toList_d,toList_d,hq]; exact beq_self_eq_true _
     have HV:Hid (R = (candR t.data.toList,0)):=lH (by
       rw [HR.out]
       unfold parsV
       rw [if_neg (show ¬ 40000 < t.data.toList.length from HM.out),if_pos ⟨by rw [<- hq]; exact h0,by rw [<- HYL.out]; exact hq⟩])
     rw [HCR.out,HC.out] at HV
     clear h0 hq
     refine c5.calls0 (Kp.keep HT.out HI.out.since) ?_
     intro wz hz
     replace HI:=qi_step hz HI
     replace HS:=lH HI.out.since
     have hg:=lH (qi_res HI)
     have n0:=(qi_cells HI 0 _ rfl).1
     have n1:=(qi_cells HI 1 _ rfl).1
     have n2:=(qi_cells HI 2 _ rfl).1
     have n3:=(qi_cells HI 3 _ rfl).1
     have n4:=(qi_cells HI 4 _ rfl).1
     have n5:=(qi_cells HI 5 _ rfl).1
     have hone:=s6_one ⟨x0,x1,E0,0,E0,E0⟩
     clear hz c5
     unfold sc noS E0 at hg
     unfold sc at hone
     go_wp2_with (refine RwL.at_store (ty:=23) rfl ?_; refine wpList_store_row rfl 23 _ _ rfl w.heap.size #[.string x0,.string x1,.string E0,.int .i64 0,.string E0,.string E0] (by rfl) (by rfl) _ _ hg.out (rs6_info _ _ _ _ _ _) rfl hone ?_)
     exact bodyPost_ret (v:=.tuple #[.agg #[.string x0,.string x1,.string E0,.int .i64 0,.string E0,.string E0],.int .i64 0]) (results_cell_tmp2 Tryz.results8 _ _ _ _ _ _ _ _ rfl rfl (setRow_heap _ _ _ _ _ _ hg.out) Tryz.underlying23 rfl (rs6_info _ _ _ _ _ _)) rfl ⟨by rw [HV.out]; rfl,below_setRow HS.out (Nat.le_refl _) _⟩
   · have q1:(Y.toList == t.toList) = false:=by rw [toList_d,toList_d]; exact beq_eq_false_iff_ne.2 hq
     have HV:Hid (R = (noS,5)):=lH (by
       rw [HR.out]
       unfold parsV
       rw [if_neg (show ¬ 40000 < t.data.toList.length from HM.out),if_neg (fun h9 => hq (by rw [HYL.out]; exact h9.2))])
     clear h0 hq
     have hone:=s6_one noS
     refine c5.calls0 (Kp.keep HT.out HI.out.since) ?_
     intro wz hz
     replace HI:=qi_step hz HI
     replace HS:=lH HI.out.since
     have hg:=lH (qi_res HI)
     clear hz c5
     unfold sc noS E0 at hg hone
     go_wp2_with (refine RwL.at_store (ty:=23) rfl ?_; refine wpList_store_row rfl 23 _ _ rfl w.heap.size #[.string ⟨#[]⟩,.string ⟨#[]⟩,.string ⟨#[]⟩,.int .i64 0,.string ⟨#[]⟩,.string ⟨#[]⟩] (by rfl) (by rfl) _ _ hg.out (rs6_info _ _ _ _ _ _) rfl hone ?_)
     exact bodyPost_ret (v:=.tuple #[.agg #[.string ⟨#[]⟩,.string ⟨#[]⟩,.string ⟨#[]⟩,.int .i64 0,.string ⟨#[]⟩,.string ⟨#[]⟩],.int .i64 5]) (results_cell_tmp2 Tryz.results8 _ _ _ _ _ _ _ _ rfl rfl (setRow_heap _ _ _ _ _ _ hg.out) Tryz.underlying23 rfl (rs6_info _ _ _ _ _ _)) rfl ⟨by rw [HV.out]; rfl,below_setRow HS.out (Nat.le_refl _) _⟩
 have q14:(x0.toList == ([100,114,111,112]:List UInt8)) = false:=by rw [toList_d]; exact beq_eq_false_iff_ne.2 hv
 have h4:=hv
 clear hv
 by_cases hv:x0.data.toList = cheL
 ·
   have q10:(x0.toList == ([112,117,116]:List UInt8)) = false:=by rw [toList_d,hv]; decide
   have q11:(x0.toList == ([97,100,100]:List UInt8)) = false:=by rw [toList_d,hv]; decide
   have q12:(x0.toList == ([103,101,116]:List UInt8)) = false:=by rw [toList_d,hv]; decide
   have q13:(x0.toList == ([101,120,112,111,114,116]:List UInt8)) = false:=by rw [toList_d,hv]; decide
   have q14:(x0.toList == ([100,114,111,112]:List UInt8)) = false:=by rw [toList_d,hv]; decide
   have q15:(x0.toList == ([99,104,101,99,107]:List UInt8)) = true:=by rw [toList_d,hv]; decide
   have HC:Hid (candX x0 x1 x2 x3 x4 = ⟨x0,x1,E0,0,E0,E0⟩):=lH (by unfold candX; rw [hv,if_neg (by decide),if_pos (by decide)])
   clear hv
   go_wp2_with (at_builtin; refine app_rows elemS rfl _ _ (by rfl) w1 w2 _ rfl [] [] _ L.length _ (by rfl) HSR.out HS2.out #[.string ⟨#[]⟩,.string ⟨#[]⟩,.string ⟨#[]⟩,.string ⟨#[]⟩] 4 4 (by rfl) rfl four_one HB1.out HB2.out ?_; intro V3 w4 HQ HT2 _; have h98:=HQ.get; dsimp only at h98; obtain ⟨gw,c3,hV3⟩:=Rcd.own_addr h98 (Nat.succ_pos _); subst hV3; replace h98:=HQ.get; dsimp only at h98; rw [show L.map Value.string ++ (#[.string ⟨#[]⟩,.string ⟨#[]⟩,.string ⟨#[]⟩,.string ⟨#[]⟩]:Array Value).toList = (x0 :: x1 :: x2 :: x3 :: x4 :: T).map Value.string by rw [<- HL5.out,List.map_append]; rfl,<- HN.out] at h98; rw [<- HN.out]; have HI:=lH (qi_new HLR.out HS.out HT2 h98 ⟨x0,E0,E0,0,E0,E0⟩); have HK:=lH (fun S:St => qi_new HLR.out HS.out HT2 h98 S); have m0:=Rcd.own_cell h98 0 (.string x0) rfl; have m1:(w4.alloc (.cells #[.string x0,.string ⟨#[]⟩,.string ⟨#[]⟩,.int .i64 0,.string ⟨#[]⟩,.string ⟨#[]⟩] 23)).cell? ⟨gw,1,none⟩ = some (.string x1):=qi_word HI 1 x1 rfl; clear HQ HT2 h98)
   clear m0 m1
   try clear HI
   obtain ⟨wb,hwb⟩:∃ W,W = w4.alloc (.cells (sc ⟨x0,x1,E0,0,E0,E0⟩).toArray 23):=⟨_,rfl⟩
   rw [show w4.alloc (.cells #[.string x0,.string x1,.string ⟨#[]⟩,.int .i64 0,.string ⟨#[]⟩,.string ⟨#[]⟩] 23) = wb from hwb.symm]
   have HI:=lH (HK.out ⟨x0,x1,E0,0,E0,E0⟩)
   rw [<- hwb] at HI
   clear hwb HK
   try clear n0 n1 n2 n3 n4 n5
   have c5:=rtext_k _ HCZ.out.1 HCZ.out.2.1 HCZ.out.2.2.1 HCZ.out.2.2.2
   rw [<- HCR.out] at c5
   obtain ⟨Y,hY⟩:∃ Y,Y = bs (textV Rok (candR t.data.toList)):=⟨_,rfl⟩
   rw [<- hY] at c5
   have hYl:Y.data.toList = textV Rok (candR t.data.toList):=by rw [hY,list_bs]
   have HYL:=lH hYl
   rw [HCR.out,HC.out] at c5
   clear hY hYl
   by_cases h0:Y.data.toList = []
   · have q0:(Y.toList == ([]:List UInt8)) = true:=by rw [toList_d,h0]; rfl
     have HV:Hid (R = (noS,5)):=lH (by
       rw [HR.out]
       unfold parsV
       rw [if_neg (show ¬ 40000 < t.data.toList.length from HM.out),if_neg (fun h9 => h9.1 (by rw [<- h9.2,<- HYL.out]; exact h0))])
     clear h0
     have hone:=s6_one noS
     refine c5.calls0 (Kp.keep HT.out HI.out.since) ?_
     intro wz hz
     replace HI:=qi_step hz HI
     replace HS:=lH HI.out.since
     have hg:=lH (qi_res HI)
     clear hz c5
     unfold sc noS E0 at hg hone
     go_wp2_with (refine RwL.at_store (ty:=23) rfl ?_; refine wpList_store_row rfl 23 _ _ rfl w.heap.size #[.string ⟨#[]⟩,.string ⟨#[]⟩,.string ⟨#[]⟩,.int .i64 0,.string ⟨#[]⟩,.string ⟨#[]⟩] (by rfl) (by rfl) _ _ hg.out (rs6_info _ _ _ _ _ _) rfl hone ?_)
     exact bodyPost_ret (v:=.tuple #[.agg #[.string ⟨#[]⟩,.string ⟨#[]⟩,.string ⟨#[]⟩,.int .i64 0,.string ⟨#[]⟩,.string ⟨#[]⟩],.int .i64 5]) (results_cell_tmp2 Tryz.results8 _ _ _ _ _ _ _ _ rfl rfl (setRow_heap _ _ _ _ _ _ hg.out) Tryz.underlying23 rfl (rs6_info _ _ _ _ _ _)) rfl ⟨by rw [HV.out]; rfl,below_setRow HS.out (Nat.le_refl _) _⟩
   have q0:(Y.toList == ([]:List UInt8)) = false:=by rw [toList_d]; exact beq_eq_false_iff_ne.2 h0
   by_cases hq:Y.data.toList = t.data.toList
   · have q1:(Y.toList == t.toList) = true:=by rw [toList_d,toList_d,hq]; exact beq_self_eq_true _
     have HV:Hid (R = (candR t.data.toList,0)):=lH (by
       rw [HR.out]
       unfold parsV
       rw [if_neg (show ¬ 40000 < t.data.toList.length from HM.out),if_pos ⟨by rw [<- hq]; exact h0,by rw [<- HYL.out]; exact hq⟩])
     rw [HCR.out,HC.out] at HV
     clear h0 hq
     refine c5.calls0 (Kp.keep HT.out HI.out.since) ?_
     intro wz hz
     replace HI:=qi_step hz HI
     replace HS:=lH HI.out.since
     have hg:=lH (qi_res HI)
     have n0:=(qi_cells HI 0 _ rfl).1
     have n1:=(qi_cells HI 1 _ rfl).1
     have n2:=(qi_cells HI 2 _ rfl).1
     have n3:=(qi_cells HI 3 _ rfl).1
     have n4:=(qi_cells HI 4 _ rfl).1
     have n5:=(qi_cells HI 5 _ rfl).1
     have hone:=s6_one ⟨x0,x1,E0,0,E0,E0⟩
     clear hz c5
     unfold sc noS E0 at hg
     unfold sc at hone
     go_wp2_with (refine RwL.at_store (ty:=23) rfl ?_; refine wpList_store_row rfl 23 _ _ rfl w.heap.size #[.string x0,.string x1,.string E0,.int .i64 0,.string E0,.string E0] (by rfl) (by rfl) _ _ hg.out (rs6_info _ _ _ _ _ _) rfl hone ?_)
     exact bodyPost_ret (v:=.tuple #[.agg #[.string x0,.string x1,.string E0,.int .i64 0,.string E0,.string E0],.int .i64 0]) (results_cell_tmp2 Tryz.results8 _ _ _ _ _ _ _ _ rfl rfl (setRow_heap _ _ _ _ _ _ hg.out) Tryz.underlying23 rfl (rs6_info _ _ _ _ _ _)) rfl ⟨by rw [HV.out]; rfl,below_setRow HS.out (Nat.le_refl _) _⟩
   · have q1:(Y.toList == t.toList) = false:=by rw [toList_d,toList_d]; exact beq_eq_false_iff_ne.2 hq
     have HV:Hid (R = (noS,5)):=lH (by
       rw [HR.out]
       unfold parsV
       rw [if_neg (show ¬ 40000 < t.data.toList.length from HM.out),if_neg (fun h9 => hq (by rw [HYL.out]; exact h9.2))])
     clear h0 hq
     have hone:=s6_one noS
     refine c5.calls0 (Kp.keep HT.out HI.out.since) ?_
     intro wz hz
     replace HI:=qi_step hz HI
     replace HS:=lH HI.out.since
     have hg:=lH (qi_res HI)
     clear hz c5
     unfold sc noS E0 at hg hone
     go_wp2_with (refine RwL.at_store (ty:=23) rfl ?_; refine wpList_store_row rfl 23 _ _ rfl w.heap.size #[.string ⟨#[]⟩,.string ⟨#[]⟩,.string ⟨#[]⟩,.int .i64 0,.string ⟨#[]⟩,.string ⟨#[]⟩] (by rfl) (by rfl) _ _ hg.out (rs6_info _ _ _ _ _ _) rfl hone ?_)
     exact bodyPost_ret (v:=.tuple #[.agg #[.string ⟨#[]⟩,.string ⟨#[]⟩,.string ⟨#[]⟩,.int .i64 0,.string ⟨#[]⟩,.string ⟨#[]⟩],.int .i64 5]) (results_cell_tmp2 Tryz.results8 _ _ _ _ _ _ _ _ rfl rfl (setRow_heap _ _ _ _ _ _ hg.out) Tryz.underlying23 rfl (rs6_info _ _ _ _ _ _)) rfl ⟨by rw [HV.out]; rfl,below_setRow HS.out (Nat.le_refl _) _⟩
 have q15:(x0.toList == ([99,104,101,99,107]:List UInt8)) = false:=by rw [toList_d]; exact beq_eq_false_iff_ne.2 hv
 have h5:=hv
 clear hv
 by_cases hv:x0.data.toList = movL
 ·
   have q10:(x0.toList == ([112,117,116]:List UInt8)) = false:=by rw [toList_d,hv]; decide
   have q11:(x0.toList == ([97,100,100]:List UInt8)) = false:=by rw [toList_d,hv]; decide
   have q12:(x0.toList == ([103,101,116]:List UInt8)) = false:=by rw [toList_d,hv]; decide
   have q13:(x0.toList == ([101,120,112,111,114,116]:List UInt8)) = false:=by rw [toList_d,hv]; decide
   have q14:(x0.toList == ([100,114,111,112]:List UInt8)) = false:=by rw [toList_d,hv]; decide
   have q15:(x0.toList == ([99,104,101,99,107]:List UInt8)) = false:=by rw [toList_d,hv]; decide
   have q16:(x0.toList == ([109,111,118,101]:List UInt8)) = true:=by rw [toList_d,hv]; decide
   have HC:Hid (candX x0 x1 x2 x3 x4 = ⟨x0,x1,x2,0,E0,E0⟩):=lH (by unfold candX; rw [hv,if_neg (by decide),if_neg (by decide),if_pos (by decide)])
   clear hv
   go_wp2_with (at_builtin; refine app_rows elemS rfl _ _ (by rfl) w1 w2 _ rfl [] [] _ L.length _ (by rfl) HSR.out HS2.out #[.string ⟨#[]⟩,.string ⟨#[]⟩,.string ⟨#[]⟩,.string ⟨#[]⟩] 4 4 (by rfl) rfl four_one HB1.out HB2.out ?_; intro V3 w4 HQ HT2 _; have h98:=HQ.get; dsimp only at h98; obtain ⟨gw,c3,hV3⟩:=Rcd.own_addr h98 (Nat.succ_pos _); subst hV3; replace h98:=HQ.get; dsimp only at h98; rw [show L.map Value.string ++ (#[.string ⟨#[]⟩,.string ⟨#[]⟩,.string ⟨#[]⟩,.string ⟨#[]⟩]:Array Value).toList = (x0 :: x1 :: x2 :: x3 :: x4 :: T).map Value.string by rw [<- HL5.out,List.map_append]; rfl,<- HN.out] at h98; rw [<- HN.out]; have HI:=lH (qi_new HLR.out HS.out HT2 h98 ⟨x0,E0,E0,0,E0,E0⟩); have HK:=lH (fun S:St => qi_new HLR.out HS.out HT2 h98 S); have m0:=Rcd.own_cell h98 0 (.string x0) rfl; have m1:(w4.alloc (.cells #[.string x0,.string ⟨#[]⟩,.string ⟨#[]⟩,.int .i64 0,.string ⟨#[]⟩,.string ⟨#[]⟩] 23)).cell? ⟨gw,1,none⟩ = some (.string x1):=qi_word HI 1 x1 rfl; clear HQ HT2 h98)
   clear m0 m1
   try clear HI
   obtain ⟨wb,hwb⟩:∃ W,W = w4.alloc (.cells (sc ⟨x0,E0,E0,0,E0,E0⟩).toArray 23):=⟨_,rfl⟩
   rw [show w4.alloc (.cells #[.string x0,.string ⟨#[]⟩,.string ⟨#[]⟩,.int .i64 0,.string ⟨#[]⟩,.string ⟨#[]⟩] 23) = wb from hwb.symm]
   have HI:=lH (HK.out ⟨x0,E0,E0,0,E0,E0⟩)
   rw [<- hwb] at HI
   clear hwb HK
   refine RegW.start (CW gw x1 x2 x4) 9 (by kernel_rfl) (cw_of (qi_drew HI)) (fun hHeld => ?_)
   replace HI:=qi_drew HI
   obtain ⟨wq,hwq⟩:∃ W,W = wb.drew:=⟨_,rfl⟩
   rw [<- hwq] at HI hHeld ⊢
   clear hwq
   refine RegW.take (i:=0) (v:=?_) rfl (by kernel_rfl) (by kernel_rfl) (by kernel_rfl) (by kernel_rfl) (fun _ _ _ h => h) (Or.inl ⟨by kernel_rfl, ?_⟩) (by assumption) ?_
   rotate_left
   · intro w hSw
     unfold CW at hSw
     go_split_ands
     go_simp
     try with_reducible rfl
   try simp only [RegW.p]
   refine RegW.take (i:=1) (v:=?_) rfl (by kernel_rfl) (by kernel_rfl) (by kernel_rfl) (by kernel_rfl) (fun _ _ _ h => h) (Or.inl ⟨by kernel_rfl, ?_⟩) (by assumption) ?_
   rotate_left
   · intro w hSw
     unfold CW at hSw
     go_split_ands
     go_simp
     try with_reducible rfl
   try simp only [RegW.p]
   refine RegW.take (i:=2) (v:=?_) rfl (by kernel_rfl) (by kernel_rfl) (by kernel_rfl) (by kernel_rfl) (fun _ _ _ h => h) (Or.inl ⟨by kernel_rfl, ?_⟩) (by assumption) ?_
   rotate_left
   · intro w hSw
     unfold CW at hSw
     go_split_ands
     go_simp
     try with_reducible rfl
   try simp only [RegW.p]
   refine RegW.take (i:=3) (v:=?_) rfl (by kernel_rfl) (by kernel_rfl) (by kernel_rfl) (by kernel_rfl) (fun _ _ _ h => h) (Or.inl ⟨by kernel_rfl, ?_⟩) (by assumption) ?_
   rotate_left
   · intro w hSw
     unfold CW at hSw
     go_split_ands
     go_simp
     try with_reducible rfl
   try simp only [RegW.p]
   refine RegW.take (i:=4) (v:=?_) rfl (by kernel_rfl) (by kernel_rfl) (by kernel_rfl) (by kernel_rfl) (fun _ _ _ h => h) (Or.inl ⟨by kernel_rfl, ?_⟩) (by assumption) ?_
   rotate_left
   · intro w hSw
     unfold CW at hSw
     go_split_ands
     go_simp
     try with_reducible rfl
   try simp only [RegW.p]
   refine RegW.take (i:=5) (v:=?_) rfl (by kernel_rfl) (by kernel_rfl) (by kernel_rfl) (by kernel_rfl) (fun _ _ _ h => h) (Or.inl ⟨by kernel_rfl, ?_⟩) (by assumption) ?_
   rotate_left
   · intro w hSw
     unfold CW at hSw
     go_split_ands
     go_simp
     try with_reducible rfl
   try simp only [RegW.p]
   refine RegW.take (i:=6) (v:=?_) rfl (by kernel_rfl) (by kernel_rfl) (by kernel_rfl) (by kernel_rfl) (fun _ _ _ h => h) (Or.inl ⟨by kernel_rfl, ?_⟩) (by assumption) ?_
   rotate_left
   · intro w hSw
     unfold CW at hSw
     go_split_ands
     go_simp
     try with_reducible rfl
   try simp only [RegW.p]
   refine RegW.onlyS 7 rfl (by kernel_rfl) 9 _ _ rfl ⟨w4.heap.size,1,none⟩ (.string x1) (by go_simp) (by go_simp) (lone_store (qi_box HI) 9 one_s 1 (by show 1 < 6; decide) (.string x1) rfl) (by kernel_rfl) (cw_of (qi_set HI 1 (by decide) (.string x1) ⟨x0,x1,E0,0,E0,E0⟩ rfl)) ?_
   replace HI:=qi_set HI 1 (by decide) (.string x1) ⟨x0,x1,E0,0,E0,E0⟩ rfl
   obtain ⟨wr,hwn⟩:∃ W,W = wq.setCell ⟨w4.heap.size,1,none⟩ (.string x1):=⟨_,rfl⟩
   rw [<- hwn] at HI ⊢
   clear hwn
   clear hHeld
   have hHeld:=cw_of HI
   try simp only [RegW.p]
   refine RegW.take (i:=8) (v:=?_) rfl (by kernel_rfl) (by kernel_rfl) (by kernel_rfl) (by kernel_rfl) (fun _ _ _ h => h) (Or.inl ⟨by kernel_rfl, ?_⟩) (by assumption) ?_
   rotate_left
   · intro w hSw
     unfold CW at hSw
     go_split_ands
     go_simp
     try with_reducible rfl
   try simp only [RegW.p]
   refine RegW.last rfl (by kernel_rfl) (by kernel_rfl) ?_
   clear hHeld
   have k2:=qi_cells HI 2 _ rfl
   replace HI:=qi_set HI 2 (by decide) (.string x2) ⟨x0,x1,x2,0,E0,E0⟩ rfl
   have n0:=(qi_cells HI 0 _ rfl).1
   have n1:=(qi_cells HI 1 _ rfl).1
   have n2:=(qi_cells HI 2 _ rfl).1
   have n3:=(qi_cells HI 3 _ rfl).1
   have n4:=(qi_cells HI 4 _ rfl).1
   have n5:=(qi_cells HI 5 _ rfl).1
   go_wp2_with fail
   try clear n0 n1 n2 n3 n4 n5
   have c5:=rtext_k _ HCZ.out.1 HCZ.out.2.1 HCZ.out.2.2.1 HCZ.out.2.2.2
   rw [<- HCR.out] at c5
   obtain ⟨Y,hY⟩:∃ Y,Y = bs (textV Rok (candR t.data.toList)):=⟨_,rfl⟩
   rw [<- hY] at c5
   have hYl:Y.data.toList = textV Rok (candR t.data.toList):=by rw [hY,list_bs]
   have HYL:=lH hYl
   rw [HCR.out,HC.out] at c5
   clear hY hYl
   by_cases h0:Y.data.toList = []
   · have q0:(Y.toList == ([]:List UInt8)) = true:=by rw [toList_d,h0]; rfl
     have HV:Hid (R = (noS,5)):=lH (by
       rw [HR.out]
       unfold parsV
       rw [if_neg (show ¬ 40000 < t.data.toList.length from HM.out),if_neg (fun h9 => h9.1 (by rw [<- h9.2,<- HYL.out]; exact h0))])
     clear h0
     have hone:=s6_one noS
     refine c5.calls0 (Kp.keep HT.out HI.out.since) ?_
     intro wz hz
     replace HI:=qi_step hz HI
     replace HS:=lH HI.out.since
     have hg:=lH (qi_res HI)
     clear hz c5
     unfold sc noS E0 at hg hone
     go_wp2_with (refine RwL.at_store (ty:=23) rfl ?_; refine wpList_store_row rfl 23 _ _ rfl w.heap.size #[.string ⟨#[]⟩,.string ⟨#[]⟩,.string ⟨#[]⟩,.int .i64 0,.string ⟨#[]⟩,.string ⟨#[]⟩] (by rfl) (by rfl) _ _ hg.out (rs6_info _ _ _ _ _ _) rfl hone ?_)
     exact bodyPost_ret (v:=.tuple #[.agg #[.string ⟨#[]⟩,.string ⟨#[]⟩,.string ⟨#[]⟩,.int .i64 0,.string ⟨#[]⟩,.string ⟨#[]⟩],.int .i64 5]) (results_cell_tmp2 Tryz.results8 _ _ _ _ _ _ _ _ rfl rfl (setRow_heap _ _ _ _ _ _ hg.out) Tryz.underlying23 rfl (rs6_info _ _ _ _ _ _)) rfl ⟨by rw [HV.out]; rfl,below_setRow HS.out (Nat.le_refl _) _⟩
   have q0:(Y.toList == ([]:List UInt8)) = false:=by rw [toList_d]; exact beq_eq_false_iff_ne.2 h0
   by_cases hq:Y.data.toList = t.data.toList
   · have q1:(Y.toList == t.toList) = true:=by rw [toList_d,toList_d,hq]; exact beq_self_eq_true _
     have HV:Hid (R = (candR t.data.toList,0)):=lH (by
       rw [HR.out]
       unfold parsV
       rw [if_neg (show ¬ 40000 < t.data.toList.length from HM.out),if_pos ⟨by rw [<- hq]; exact h0,by rw [<- HYL.out]; exact hq⟩])
     rw [HCR.out,HC.out] at HV
     clear h0 hq
     refine c5.calls0 (Kp.keep HT.out HI.out.since) ?_
     intro wz hz
     replace HI:=qi_step hz HI
     replace HS:=lH HI.out.since
     have hg:=lH (qi_res HI)
     have n0:=(qi_cells HI 0 _ rfl).1
     have n1:=(qi_cells HI 1 _ rfl).1
     have n2:=(qi_cells HI 2 _ rfl).1
     have n3:=(qi_cells HI 3 _ rfl).1
     have n4:=(qi_cells HI 4 _ rfl).1
     have n5:=(qi_cells HI 5 _ rfl).1
     have hone:=s6_one ⟨x0,x1,x2,0,E0,E0⟩
     clear hz c5
     unfold sc noS E0 at hg
     unfold sc at hone
     go_wp2_with (refine RwL.at_store (ty:=23) rfl ?_; refine wpList_store_row rfl 23 _ _ rfl w.heap.size #[.string x0,.string x1,.string x2,.int .i64 0,.string E0,.string E0] (by rfl) (by rfl) _ _ hg.out (rs6_info _ _ _ _ _ _) rfl hone ?_)
     exact bodyPost_ret (v:=.tuple #[.agg #[.string x0,.string x1,.string x2,.int .i64 0,.string E0,.string E0],.int .i64 0]) (results_cell_tmp2 Tryz.results8 _ _ _ _ _ _ _ _ rfl rfl (setRow_heap _ _ _ _ _ _ hg.out) Tryz.underlying23 rfl (rs6_info _ _ _ _ _ _)) rfl ⟨by rw [HV.out]; rfl,below_setRow HS.out (Nat.le_refl _) _⟩
   · have q1:(Y.toList == t.toList) = false:=by rw [toList_d,toList_d]; exact beq_eq_false_iff_ne.2 hq
     have HV:Hid (R = (noS,5)):=lH (by
       rw [HR.out]
       unfold parsV
       rw [if_neg (show ¬ 40000 < t.data.toList.length from HM.out),if_neg (fun h9 => hq (by rw [HYL.out]; exact h9.2))])
     clear h0 hq
     have hone:=s6_one noS
     refine c5.calls0 (Kp.keep HT.out HI.out.since) ?_
     intro wz hz
     replace HI:=qi_step hz HI
     replace HS:=lH HI.out.since
     have hg:=lH (qi_res HI)
     clear hz c5
     unfold sc noS E0 at hg hone
     go_wp2_with (refine RwL.at_store (ty:=23) rfl ?_; refine wpList_store_row rfl 23 _ _ rfl w.heap.size #[.string ⟨#[]⟩,.string ⟨#[]⟩,.string ⟨#[]⟩,.int .i64 0,.string ⟨#[]⟩,.string ⟨#[]⟩] (by rfl) (by rfl) _ _ hg.out (rs6_info _ _ _ _ _ _) rfl hone ?_)
     exact bodyPost_ret (v:=.tuple #[.agg #[.string ⟨#[]⟩,.string ⟨#[]⟩,.string ⟨#[]⟩,.int .i64 0,.string ⟨#[]⟩,.string ⟨#[]⟩],.int .i64 5]) (results_cell_tmp2 Tryz.results8 _ _ _ _ _ _ _ _ rfl rfl (setRow_heap _ _ _ _ _ _ hg.out) Tryz.underlying23 rfl (rs6_info _ _ _ _ _ _)) rfl ⟨by rw [HV.out]; rfl,below_setRow HS.out (Nat.le_refl _) _⟩
 have q16:(x0.toList == ([109,111,118,101]:List UInt8)) = false:=by rw [toList_d]; exact beq_eq_false_iff_ne.2 hv
 have h6:=hv
 clear hv
 by_cases hv:x0.data.toList = rekL
 ·
   have q10:(x0.toList == ([112,117,116]:List UInt8)) = false:=by rw [toList_d,hv]; decide
   have q11:(x0.toList == ([97,100,100]:List UInt8)) = false:=by rw [toList_d,hv]; decide
   have q12:(x0.toList == ([103,101,116]:List UInt8)) = false:=by rw [toList_d,hv]; decide
   have q13:(x0.toList == ([101,120,112,111,114,116]:List UInt8)) = false:=by rw [toList_d,hv]; decide
   have q14:(x0.toList == ([100,114,111,112]:List UInt8)) = false:=by rw [toList_d,hv]; decide
   have q15:(x0.toList == ([99,104,101,99,107]:List UInt8)) = false:=by rw [toList_d,hv]; decide
   have q16:(x0.toList == ([109,111,118,101]:List UInt8)) = false:=by rw [toList_d,hv]; decide
   have q17:(x0.toList == ([114,101,107,101,121]:List UInt8)) = true:=by rw [toList_d,hv]; decide
   obtain ⟨BB,c6⟩:=Rcd.runhex_m x1 (by have:=HZX.out; omega)
   obtain ⟨Y1,hY1⟩:∃ Y,Y = Dig.unS x1.data.toList:=⟨_,rfl⟩
   rw [<- hY1] at c6
   have HC:Hid (candX x0 x1 x2 x3 x4 = ⟨x0,E0,E0,0,E0,Y1⟩):=lH (by rw [hY1]; unfold candX; rw [hv,if_neg (by decide),if_neg (by decide),if_neg (by decide),if_pos (by decide)])
   clear hv hY1
   go_wp2_with (at_builtin; refine app_rows elemS rfl _ _ (by rfl) w1 w2 _ rfl [] [] _ L.length _ (by rfl) HSR.out HS2.out #[.string ⟨#[]⟩,.string ⟨#[]⟩,.string ⟨#[]⟩,.string ⟨#[]⟩] 4 4 (by rfl) rfl four_one HB1.out HB2.out ?_; intro V3 w4 HQ HT2 _; have h98:=HQ.get; dsimp only at h98; obtain ⟨gw,c3,hV3⟩:=Rcd.own_addr h98 (Nat.succ_pos _); subst hV3; replace h98:=HQ.get; dsimp only at h98; rw [show L.map Value.string ++ (#[.string ⟨#[]⟩,.string ⟨#[]⟩,.string ⟨#[]⟩,.string ⟨#[]⟩]:Array Value).toList = (x0 :: x1 :: x2 :: x3 :: x4 :: T).map Value.string by rw [<- HL5.out,List.map_append]; rfl,<- HN.out] at h98; rw [<- HN.out]; have HI:=lH (qi_new HLR.out HS.out HT2 h98 ⟨x0,E0,E0,0,E0,E0⟩); have HK:=lH (fun S:St => qi_new HLR.out HS.out HT2 h98 S); have m0:=Rcd.own_cell h98 0 (.string x0) rfl; have m1:(w4.alloc (.cells #[.string x0,.string ⟨#[]⟩,.string ⟨#[]⟩,.int .i64 0,.string ⟨#[]⟩,.string ⟨#[]⟩] 23)).cell? ⟨gw,1,none⟩ = some (.string x1):=qi_word HI 1 x1 rfl; clear HQ HT2 h98)
   clear m0 m1
   try clear HI
   obtain ⟨wb,hwb⟩:∃ W,W = w4.alloc (.cells (sc ⟨x0,E0,E0,0,E0,E0⟩).toArray 23):=⟨_,rfl⟩
   rw [show w4.alloc (.cells #[.string x0,.string ⟨#[]⟩,.string ⟨#[]⟩,.int .i64 0,.string ⟨#[]⟩,.string ⟨#[]⟩] 23) = wb from hwb.symm]
   have HI:=lH (HK.out ⟨x0,E0,E0,0,E0,E0⟩)
   rw [<- hwb] at HI
   clear hwb HK
   refine c6.calls0 ?_
   intro w7 h7
   replace HI:=qi_step h7 HI
   clear h7
   have k5:=qi_cells HI 5 _ rfl
   replace HI:=qi_set HI 5 (by decide) (.string Y1) ⟨x0,E0,E0,0,E0,Y1⟩ rfl
   have n0:=(qi_cells HI 0 _ rfl).1
   have n1:=(qi_cells HI 1 _ rfl).1
   have n2:=(qi_cells HI 2 _ rfl).1
   have n3:=(qi_cells HI 3 _ rfl).1
   have n4:=(qi_cells HI 4 _ rfl).1
   have n5:=(qi_cells HI 5 _ rfl).1
   go_wp2_with fail
   try clear n0 n1 n2 n3 n4 n5
   have c5:=rtext_k _ HCZ.out.1 HCZ.out.2.1 HCZ.out.2.2.1 HCZ.out.2.2.2
   rw [<- HCR.out] at c5
   obtain ⟨Y,hY⟩:∃ Y,Y = bs (textV Rok (candR t.data.toList)):=⟨_,rfl⟩
   rw [<- hY] at c5
   have hYl:Y.data.toList = textV Rok (candR t.data.toList):=by rw [hY,list_bs]
   have HYL:=lH hYl
   rw [HCR.out,HC.out] at c5
   clear hY hYl
   by_cases h0:Y.data.toList = []
   · have q0:(Y.toList == ([]:List UInt8)) = true:=by rw [toList_d,h0]; rfl
     have HV:Hid (R = (noS,5)):=lH (by
       rw [HR.out]
       unfold parsV
       rw [if_neg (show ¬ 40000 < t.data.toList.length from HM.out),if_neg (fun h9 => h9.1 (by rw [<- h9.2,<- HYL.out]; exact h0))])
     clear h0
     have hone:=s6_one noS
     refine c5.calls0 (Kp.keep HT.out HI.out.since) ?_
     intro wz hz
     replace HI:=qi_step hz HI
     replace HS:=lH HI.out.since
     have hg:=lH (qi_res HI)
     clear hz c5
     unfold sc noS E0 at hg hone
     go_wp2_with (refine RwL.at_store (ty:=23) rfl ?_; refine wpList_store_row rfl 23 _ _ rfl w.heap.size #[.string ⟨#[]⟩,.string ⟨#[]⟩,.string ⟨#[]⟩,.int .i64 0,.string ⟨#[]⟩,.string ⟨#[]⟩] (by rfl) (by rfl) _ _ hg.out (rs6_info _ _ _ _ _ _) rfl hone ?_)
     exact bodyPost_ret (v:=.tuple #[.agg #[.string ⟨#[]⟩,.string ⟨#[]⟩,.string ⟨#[]⟩,.int .i64 0,.string ⟨#[]⟩,.string ⟨#[]⟩],.int .i64 5]) (results_cell_tmp2 Tryz.results8 _ _ _ _ _ _ _ _ rfl rfl (setRow_heap _ _ _ _ _ _ hg.out) Tryz.underlying23 rfl (rs6_info _ _ _ _ _ _)) rfl ⟨by rw [HV.out]; rfl,below_setRow HS.out (Nat.le_refl _) _⟩
   have q0:(Y.toList == ([]:List UInt8)) = false:=by rw [toList_d]; exact beq_eq_false_iff_ne.2 h0
   by_cases hq:Y.data.toList = t.data.toList
   · have q1:(Y.toList == t.toList) = true:=by rw [toList_d,toList_d,hq]; exact beq_self_eq_true _
     have HV:Hid (R = (candR t.data.toList,0)):=lH (by
       rw [HR.out]
       unfold parsV
       rw [if_neg (show ¬ 40000 < t.data.toList.length from HM.out),if_pos ⟨by rw [<- hq]; exact h0,by rw [<- HYL.out]; exact hq⟩])
     rw [HCR.out,HC.out] at HV
     clear h0 hq
     refine c5.calls0 (Kp.keep HT.out HI.out.since) ?_
     intro wz hz
     replace HI:=qi_step hz HI
     replace HS:=lH HI.out.since
     have hg:=lH (qi_res HI)
     have n0:=(qi_cells HI 0 _ rfl).1
     have n1:=(qi_cells HI 1 _ rfl).1
     have n2:=(qi_cells HI 2 _ rfl).1
     have n3:=(qi_cells HI 3 _ rfl).1
     have n4:=(qi_cells HI 4 _ rfl).1
     have n5:=(qi_cells HI 5 _ rfl).1
     have hone:=s6_one ⟨x0,E0,E0,0,E0,Y1⟩
     clear hz c5
     unfold sc noS E0 at hg
     unfold sc at hone
     go_wp2_with (refine RwL.at_store (ty:=23) rfl ?_; refine wpList_store_row rfl 23 _ _ rfl w.heap.size #[.string x0,.string E0,.string E0,.int .i64 0,.string E0,.string Y1] (by rfl) (by rfl) _ _ hg.out (rs6_info _ _ _ _ _ _) rfl hone ?_)
     exact bodyPost_ret (v:=.tuple #[.agg #[.string x0,.string E0,.string E0,.int .i64 0,.string E0,.string Y1],.int .i64 0]) (results_cell_tmp2 Tryz.results8 _ _ _ _ _ _ _ _ rfl rfl (setRow_heap _ _ _ _ _ _ hg.out) Tryz.underlying23 rfl (rs6_info _ _ _ _ _ _)) rfl ⟨by rw [HV.out]; rfl,below_setRow HS.out (Nat.le_refl _) _⟩
   · have q1:(Y.toList == t.toList) = false:=by rw [toList_d,toList_d]; exact beq_eq_false_iff_ne.2 hq
     have HV:Hid (R = (noS,5)):=lH (by
       rw [HR.out]
       unfold parsV
       rw [if_neg (show ¬ 40000 < t.data.toList.length from HM.out),if_neg (fun h9 => hq (by rw [HYL.out]; exact h9.2))])
     clear h0 hq
     have hone:=s6_one noS
     refine c5.calls0 (Kp.keep HT.out HI.out.since) ?_
     intro wz hz
     replace HI:=qi_step hz HI
     replace HS:=lH HI.out.since
     have hg:=lH (qi_res HI)
     clear hz c5
     unfold sc noS E0 at hg hone
     go_wp2_with (refine RwL.at_store (ty:=23) rfl ?_; refine wpList_store_row rfl 23 _ _ rfl w.heap.size #[.string ⟨#[]⟩,.string ⟨#[]⟩,.string ⟨#[]⟩,.int .i64 0,.string ⟨#[]⟩,.string ⟨#[]⟩] (by rfl) (by rfl) _ _ hg.out (rs6_info _ _ _ _ _ _) rfl hone ?_)
     exact bodyPost_ret (v:=.tuple #[.agg #[.string ⟨#[]⟩,.string ⟨#[]⟩,.string ⟨#[]⟩,.int .i64 0,.string ⟨#[]⟩,.string ⟨#[]⟩],.int .i64 5]) (results_cell_tmp2 Tryz.results8 _ _ _ _ _ _ _ _ rfl rfl (setRow_heap _ _ _ _ _ _ hg.out) Tryz.underlying23 rfl (rs6_info _ _ _ _ _ _)) rfl ⟨by rw [HV.out]; rfl,below_setRow HS.out (Nat.le_refl _) _⟩
 have q17:(x0.toList == ([114,101,107,101,121]:List UInt8)) = false:=by rw [toList_d]; exact beq_eq_false_iff_ne.2 hv
 have h7:=hv
 clear hv
 have HC:Hid (candX x0 x1 x2 x3 x4 = ⟨x0,E0,E0,0,E0,E0⟩):=lH (by unfold candX; rw [if_neg (by rintro (h | h) <;> contradiction),if_neg (by rintro (h | h | h | h) <;> contradiction),if_neg h6,if_neg h7])
 clear h0 h1 h2 h3 h4 h5 h6 h7
 go_wp2_with (at_builtin; refine app_rows elemS rfl _ _ (by rfl) w1 w2 _ rfl [] [] _ L.length _ (by rfl) HSR.out HS2.out #[.string ⟨#[]⟩,.string ⟨#[]⟩,.string ⟨#[]⟩,.string ⟨#[]⟩] 4 4 (by rfl) rfl four_one HB1.out HB2.out ?_; intro V3 w4 HQ HT2 _; have h98:=HQ.get; dsimp only at h98; obtain ⟨gw,c3,hV3⟩:=Rcd.own_addr h98 (Nat.succ_pos _); subst hV3; replace h98:=HQ.get; dsimp only at h98; rw [show L.map Value.string ++ (#[.string ⟨#[]⟩,.string ⟨#[]⟩,.string ⟨#[]⟩,.string ⟨#[]⟩]:Array Value).toList = (x0 :: x1 :: x2 :: x3 :: x4 :: T).map Value.string by rw [<- HL5.out,List.map_append]; rfl,<- HN.out] at h98; rw [<- HN.out]; have HI:=lH (qi_new HLR.out HS.out HT2 h98 ⟨x0,E0,E0,0,E0,E0⟩); have HK:=lH (fun S:St => qi_new HLR.out HS.out HT2 h98 S); have m0:=Rcd.own_cell h98 0 (.string x0) rfl; have m1:(w4.alloc (.cells #[.string x0,.string ⟨#[]⟩,.string ⟨#[]⟩,.int .i64 0,.string ⟨#[]⟩,.string ⟨#[]⟩] 23)).cell? ⟨gw,1,none⟩ = some (.string x1):=qi_word HI 1 x1 rfl; clear HQ HT2 h98)
 clear m0 m1
 try clear HI
 obtain ⟨wb,hwb⟩:∃ W,W = w4.alloc (.cells (sc ⟨x0,E0,E0,0,E0,E0⟩).toArray 23):=⟨_,rfl⟩
 rw [show w4.alloc (.cells #[.string x0,.string ⟨#[]⟩,.string ⟨#[]⟩,.int .i64 0,.string ⟨#[]⟩,.string ⟨#[]⟩] 23) = wb from hwb.symm]
 have HI:=lH (HK.out ⟨x0,E0,E0,0,E0,E0⟩)
 rw [<- hwb] at HI
 clear hwb HK
 try clear n0 n1 n2 n3 n4 n5
 have c5:=rtext_k _ HCZ.out.1 HCZ.out.2.1 HCZ.out.2.2.1 HCZ.out.2.2.2
 rw [<- HCR.out] at c5
 obtain ⟨Y,hY⟩:∃ Y,Y = bs (textV Rok (candR t.data.toList)):=⟨_,rfl⟩
 rw [<- hY] at c5
 have hYl:Y.data.toList = textV Rok (candR t.data.toList):=by rw [hY,list_bs]
 have HYL:=lH hYl
 rw [HCR.out,HC.out] at c5
 clear hY hYl
 by_cases h0:Y.data.toList = []
 · have q0:(Y.toList == ([]:List UInt8)) = true:=by rw [toList_d,h0]; rfl
   have HV:Hid (R = (noS,5)):=lH (by
     rw [HR.out]
     unfold parsV
     rw [if_neg (show ¬ 40000 < t.data.toList.length from HM.out),if_neg (fun h9 => h9.1 (by rw [<- h9.2,<- HYL.out]; exact h0))])
   clear h0
   have hone:=s6_one noS
   refine c5.calls0 (Kp.keep HT.out HI.out.since) ?_
   intro wz hz
   replace HI:=qi_step hz HI
   replace HS:=lH HI.out.since
   have hg:=lH (qi_res HI)
   clear hz c5
   unfold sc noS E0 at hg hone
   go_wp2_with (refine RwL.at_store (ty:=23) rfl ?_; refine wpList_store_row rfl 23 _ _ rfl w.heap.size #[.string ⟨#[]⟩,.string ⟨#[]⟩,.string ⟨#[]⟩,.int .i64 0,.string ⟨#[]⟩,.string ⟨#[]⟩] (by rfl) (by rfl) _ _ hg.out (rs6_info _ _ _ _ _ _) rfl hone ?_)
   exact bodyPost_ret (v:=.tuple #[.agg #[.string ⟨#[]⟩,.string ⟨#[]⟩,.string ⟨#[]⟩,.int .i64 0,.string ⟨#[]⟩,.string ⟨#[]⟩],.int .i64 5]) (results_cell_tmp2 Tryz.results8 _ _ _ _ _ _ _ _ rfl rfl (setRow_heap _ _ _ _ _ _ hg.out) Tryz.underlying23 rfl (rs6_info _ _ _ _ _ _)) rfl ⟨by rw [HV.out]; rfl,below_setRow HS.out (Nat.le_refl _) _⟩
 have q0:(Y.toList == ([]:List UInt8)) = false:=by rw [toList_d]; exact beq_eq_false_iff_ne.2 h0
 by_cases hq:Y.data.toList = t.data.toList
 · have q1:(Y.toList == t.toList) = true:=by rw [toList_d,toList_d,hq]; exact beq_self_eq_true _
   have HV:Hid (R = (candR t.data.toList,0)):=lH (by
     rw [HR.out]
     unfold parsV
     rw [if_neg (show ¬ 40000 < t.data.toList.length from HM.out),if_pos ⟨by rw [<- hq]; exact h0,by rw [<- HYL.out]; exact hq⟩])
   rw [HCR.out,HC.out] at HV
   clear h0 hq
   refine c5.calls0 (Kp.keep HT.out HI.out.since) ?_
   intro wz hz
   replace HI:=qi_step hz HI
   replace HS:=lH HI.out.since
   have hg:=lH (qi_res HI)
   have n0:=(qi_cells HI 0 _ rfl).1
   have n1:=(qi_cells HI 1 _ rfl).1
   have n2:=(qi_cells HI 2 _ rfl).1
   have n3:=(qi_cells HI 3 _ rfl).1
   have n4:=(qi_cells HI 4 _ rfl).1
   have n5:=(qi_cells HI 5 _ rfl).1
   have hone:=s6_one ⟨x0,E0,E0,0,E0,E0⟩
   clear hz c5
   unfold sc noS E0 at hg
   unfold sc at hone
   go_wp2_with (refine RwL.at_store (ty:=23) rfl ?_; refine wpList_store_row rfl 23 _ _ rfl w.heap.size #[.string x0,.string E0,.string E0,.int .i64 0,.string E0,.string E0] (by rfl) (by rfl) _ _ hg.out (rs6_info _ _ _ _ _ _) rfl hone ?_)
   exact bodyPost_ret (v:=.tuple #[.agg #[.string x0,.string E0,.string E0,.int .i64 0,.string E0,.string E0],.int .i64 0]) (results_cell_tmp2 Tryz.results8 _ _ _ _ _ _ _ _ rfl rfl (setRow_heap _ _ _ _ _ _ hg.out) Tryz.underlying23 rfl (rs6_info _ _ _ _ _ _)) rfl ⟨by rw [HV.out]; rfl,below_setRow HS.out (Nat.le_refl _) _⟩
 · have q1:(Y.toList == t.toList) = false:=by rw [toList_d,toList_d]; exact beq_eq_false_iff_ne.2 hq
   have HV:Hid (R = (noS,5)):=lH (by
     rw [HR.out]
     unfold parsV
     rw [if_neg (show ¬ 40000 < t.data.toList.length from HM.out),if_neg (fun h9 => hq (by rw [HYL.out]; exact h9.2))])
   clear h0 hq
   have hone:=s6_one noS
   refine c5.calls0 (Kp.keep HT.out HI.out.since) ?_
   intro wz hz
   replace HI:=qi_step hz HI
   replace HS:=lH HI.out.since
   have hg:=lH (qi_res HI)
   clear hz c5
   unfold sc noS E0 at hg hone
   go_wp2_with (refine RwL.at_store (ty:=23) rfl ?_; refine wpList_store_row rfl 23 _ _ rfl w.heap.size #[.string ⟨#[]⟩,.string ⟨#[]⟩,.string ⟨#[]⟩,.int .i64 0,.string ⟨#[]⟩,.string ⟨#[]⟩] (by rfl) (by rfl) _ _ hg.out (rs6_info _ _ _ _ _ _) rfl hone ?_)
   exact bodyPost_ret (v:=.tuple #[.agg #[.string ⟨#[]⟩,.string ⟨#[]⟩,.string ⟨#[]⟩,.int .i64 0,.string ⟨#[]⟩,.string ⟨#[]⟩],.int .i64 5]) (results_cell_tmp2 Tryz.results8 _ _ _ _ _ _ _ _ rfl rfl (setRow_heap _ _ _ _ _ _ hg.out) Tryz.underlying23 rfl (rs6_info _ _ _ _ _ _)) rfl ⟨by rw [HV.out]; rfl,below_setRow HS.out (Nat.le_refl _) _⟩
end Scr
end Go.Proofs.YtcdjfmlanicjlaaGreatDoor
