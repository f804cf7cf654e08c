import Derived.Test.YtcdjfmlanicjlaaGreatDoorSl57
set_option maxRecDepth 100000
namespace Go.Proofs.YtcdjfmlanicjlaaGreatDoor
open Go.RowKit
namespace Scr
open Rw RwL Kind
theorem elemRs:ElemIs 42 23 (.agg #[.string ⟨#[]⟩,.string ⟨#[]⟩,.string ⟨#[]⟩,.int .i64 0,.string ⟨#[]⟩,.string ⟨#[]⟩]) 6 88:=⟨Tryz.underlying42,by kernel_rfl,rfl,by decide⟩
structure NR (w:World) (r:Nat) (X:Value) (L:List ByteArray) (V:Value) (acc:List St) (W:World):Prop where
 rows:Rw.Rows W w.heap.size ([RwL.lone 39 r [.int .i64 0,.int .i64 0],⟨9,1,X,L.length,L.map Value.string⟩] ++ ⟨23,6,V,acc.length,acc.flatMap sc⟩ :: [])
 since:Since w W
section
variable {w W W':World} {r:Nat} {X V:Value} {L:List ByteArray} {acc:List St}
theorem nr_step (hb:Since W W') (h:Hid (NR w r X L V acc W)):Hid (NR w r X L V acc W'):=lH ⟨h.out.rows.since hb,h.out.since.step hb⟩
theorem nr_res (h:Hid (NR w r X L V acc W)):W.heap[r]? = some (.cells #[.int .i64 0,.int .i64 0] 39 (0,0)):=RwL.lone_heap (h.out.rows.own (RwL.lone 39 r [.int .i64 0,.int .i64 0]) (by simp))
theorem nr_own (h:Hid (NR w r X L V acc W)):W.ownsRow w.heap.size 23 6 V acc.length (acc.flatMap sc):=h.out.rows.own ⟨23,6,V,acc.length,acc.flatMap sc⟩ (by simp)
theorem nr_lines (h:Hid (NR w r X L V acc W)):StrsS W X L:=SlR.own (h.out.rows.own ⟨9,1,X,L.length,L.map Value.string⟩ (by simp))
theorem nr_ne (h:Hid (NR w r X L V acc W)):V.ownBlock ≠ some r:=fun h9 => by
 have h8:=(List.pairwise_cons.1 h.out.rows.apart).1 ⟨23,6,V,acc.length,acc.flatMap sc⟩ (by simp)
 exact h8 r rfl h9
theorem nr_new {w1:World} (hlr:(RwL.lone 39 r [.int .i64 0,.int .i64 0]).own w1 w.heap.size) (h0:Since w w1) (h4:Since w1 W) (hq:Atf.SRow w1 W X L):NR w r X L (.slice none 0 0) [] W:=by
 have h1:Rw.Rows W w.heap.size ([RwL.lone 39 r [.int .i64 0,.int .i64 0]] ++ [⟨9,1,X,L.length,L.map Value.string⟩]) :=
   Tree.rows_merge ⟨fun q hq => by rw [List.mem_singleton.1 hq]; exact hlr,by simp⟩ h4 hq (Below.size h0)
 exact ⟨Rw.Rows.add_nil h1 _ _,h0.step h4⟩
theorem nr_app {V2:Value} {S:St} (hr:Rw.Rows W' w.heap.size ([RwL.lone 39 r [.int .i64 0,.int .i64 0],⟨9,1,X,L.length,L.map Value.string⟩] ++ ⟨23,6,V2,acc.length + 1,acc.flatMap sc ++ (sc S).toArray.toList⟩ :: [])) (hs:Since w W'):Hid (NR w r X L V2 (acc ++ [S]) W'):=by
 refine lH ⟨?_,hs⟩
 rw [List.length_append,List.flatMap_append]
 simpa using hr
end
theorem lin_at (t:List UInt8) (P:List ByteArray) (S:ByteArray) (h:Sp.pcs 10 t = P.map (·.data.toList) ++ [S.data.toList]):linV Rok candR t = if S.data.toList ≠ [] then ([],5,((P.length + 1:Nat):Int)) else if 200 < P.length then ([],17,201) else stepsF Rok candR 0 (P.map (·.data.toList)) []:=by
 unfold linV
 rw [h]
 have e1:(P.map (·.data.toList) ++ [S.data.toList]).getLastD [] = S.data.toList:=by simp
 have e2:(P.map (·.data.toList) ++ [S.data.toList]).length = P.length + 1:=by simp
 have e3:(P.map (·.data.toList) ++ [S.data.toList]).dropLast = P.map (·.data.toList):=by simp
 rw [e1,e2,e3]
 rfl
theorem drop_at (L:List ByteArray) (j:Nat) (y:ByteArray) (h:L[j]? = some y):(L.map (·.data.toList)).drop j = y.data.toList :: (L.map (·.data.toList)).drop (j + 1):=by
 obtain ⟨hj,he⟩:=List.getElem?_eq_some_iff.1 h
 rw [List.drop_eq_getElem_cons (by simpa using hj),List.getElem_map,he]
theorem one_le9 (t:List UInt8) (L:List (List UInt8)) (S x:List UInt8) (h:Sp.pcs 10 t = L ++ [S]) (hx:x ∈ L):x.length <= t.length :=
 Rcd.pcs_le 10 t x (by rw [h]; exact List.mem_append_left _ hx)
set_option maxHeartbeats 16000000 in
theorem rlines_k (t:ByteArray) (hm:t.size <= 1000000):LinR 16 t (linV Rok candR t.data.toList):=by
 intro w hT
 have HT:=lH hT
 obtain ⟨R,hR⟩:∃ R,R = linV Rok candR t.data.toList:=⟨_,rfl⟩
 rw [<- hR]
 have HR:=lH hR
 have HM:=lH hm
 have hlr:=rows_push (Rows.nil w w.heap.size) (Nat.le_refl _) [.int .i64 0,.int .i64 0] 39
 have HLR:=lH (hlr.own (RwL.lone 39 w.heap.size [.int .i64 0,.int .i64 0]) (by simp))
 have HS0:=lH ((Since.refl w).alloc (.cells #[.int .i64 0,.int .i64 0] 39))
 have HPL9:=lH (fun (P:List ByteArray) (S:ByteArray) (h:Sp.pcs 10 t.data.toList = P.map (·.data.toList) ++ [S.data.toList]) => (fun x hx => one_le9 t.data.toList _ _ x.data.toList h (List.mem_map.2 ⟨x,hx,rfl⟩):∀ x ∈ P,x.data.toList.length <= t.data.toList.length))
 clear hT hR hm hlr
 go_enter Tryz.func16,Tryz.ntmps16
 go_wp2_with fail
 obtain ⟨w1,hw1⟩:∃ W,W = w.alloc (.cells #[.int .i64 0,.int .i64 0] 39):=⟨_,rfl⟩
 rw [show w.alloc (.cells #[.int .i64 0,.int .i64 0] 39) = w1 from hw1.symm]
 rw [show w.alloc (.cells [.int .i64 0,.int .i64 0].toArray 39) = w1 from hw1.symm] at HLR
 rw [<- hw1] at HS0
 clear hw1
 go_loopw [4,5,6] (fun V o i wr => ∃ (k:Nat) (P:List ByteArray) (S:ByteArray),k <= t.size /\ i = .int .i64 (k:Int) /\ o = .string S /\ Hid (Sp.pcs 10 (t.data.toList.take k) = P.map (·.data.toList) ++ [S.data.toList]) /\ Hid (P.length <= k) /\ Hid (S.size <= k) /\ Hid (Atf.SRow w1 wr V P) /\ Hid (Since w1 wr)) (fun _ _ i _ => t.size - (intOf i).toNat)
 case atStart => exact ⟨0,[],⟨#[]⟩,Nat.zero_le _,rfl,rfl,lH rfl,lH (Nat.le_refl _),lH (Nat.le_refl _),lH (Atf.SRow.nil _ _),lH (Since.refl w1)⟩
 case round =>
   obtain ⟨k,P,S,hk,rfl,rfl,HP,HL,HB,HR2,HS⟩:=hrel
   obtain ⟨VA,vc,rfl,-⟩:=HR2.out.val
   by_cases hlt:k < t.size
   · have HTB:=lH (Rcd.take_byte t k hlt)
     have HBC:=lH (Rcd.byte_cut t k hlt)
     have i1:(0:Int) <= (k:Int):=by omega
     have i2:(k:Int) < (t.size:Int):=by omega
     have e1:IntKind.i64.wrap ((k:Int) + 1) = ((k + 1:Nat):Int):=by rw [IntWalk.i64_in _ (by have:=HM.out; omega)]; omega
     have HSN:=lH (Rcd.pcs_snoc 10 t[k] (t.data.toList.take k) _ _ HP.out)
     by_cases hc:t[k] = 10
     · have t1:((t[k].toNat:Int) == 10) = true:=by rw [hc]; rfl
       have HP2:Hid (Sp.pcs 10 (t.data.toList.take (k + 1)) = (P ++ [S]).map (·.data.toList) ++ [(⟨#[]⟩:ByteArray).data.toList]):=lH (by
         rw [HTB.out,HSN.out,if_pos hc,List.map_append]
         rfl)
       have HB1:=lH (show P.length + 1 <= maxLen by have:=HL.out; have:=HM.out; unfold maxLen; omega)
       have HB2:=lH (show (P.length + 1) * 16 <= 140737488355328 by have:=HL.out; have:=HM.out; omega)
       clear hc HBC
       go_wp2_with (at_builtin; refine app_rows elemS rfl _ _ (by rfl) w1 wr _ rfl [] [] _ P.length _ (by rfl) HR2.out HS.out #[.string S] 1 1 (by rfl) rfl (Atf.s_one S) HB1.out HB2.out ?_; intro V2 w4 HQ2 HT2 _)
       have HF:Hid (Atf.SRow w1 w4 V2 (P ++ [S])):=lH (Atf.SRow.app S HQ2)
       have HS4:=lH HT2
       clear HQ2 HT2
       go_wp2_with fail
       go_roundw
       case rel => exact ⟨k + 1,P ++ [S],⟨#[]⟩,hlt,by go_num,rfl,HP2,lH (by rw [List.length_append]; exact Nat.succ_le_succ HL.out),lH (Nat.zero_le _),HF,HS4⟩
       case measure => (simp [intOf] <;> omega)
     · have t1:((t[k].toNat:Int) == 10) = false:=beq_eq_false_iff_ne.2 (fun h => hc (UInt8.toNat_inj.1 (by show t[k].toNat = 10; omega)))
       have HZ1:Hid ((S ++ t.extract k (k + 1)).size = S.size + 1):=lH (by
         have h8:=congrArg List.length (app_list S (t.extract k (k + 1)))
         rw [HBC.out,List.length_append,list_bs] at h8
         rw [HBC.out]
         exact h8)
       have HP2:Hid (Sp.pcs 10 (t.data.toList.take (k + 1)) = P.map (·.data.toList) ++ [(S ++ t.extract k (k + 1)).data.toList]):=lH (by
         rw [HTB.out,HSN.out,if_neg hc,app_list,HBC.out,list_bs])
       have z1:¬ 9223372036854775807 < S.size + (t.extract k (k + 1)).size:=by
         rw [HBC.out,size_bs]
         have:=HB.out
         have:=HM.out
         show ¬ 9223372036854775807 < S.size + 1
         omega
       have n1:((k + 1:Nat):Int).toNat = k + 1:=by omega
       have z2:((k + 1:Nat):Int) <= (t.size:Int):=by omega
       have z3:(k:Int) <= ((k + 1:Nat):Int):=by omega
       have z4:(0:Int) <= ((k + 1:Nat):Int):=by omega
       clear hc HBC
       go_wp2_with fail
       go_roundw
       case rel => exact ⟨k + 1,P,S ++ t.extract k (k + 1),hlt,by go_num,rfl,HP2,lH (Nat.le_succ_of_le HL.out),lH (by rw [HZ1.out]; exact Nat.succ_le_succ HB.out),HR2,HS⟩
       case measure => (simp [intOf] <;> omega)
   · obtain rfl:k = t.size:=by omega
     have HE:Hid (Sp.pcs 10 t.data.toList = P.map (·.data.toList) ++ [S.data.toList]):=lH (by
       have h9:=HP.out
       rw [List.take_of_length_le (by simp)] at h9
       exact h9)
     have HRL:Hid (R = if S.data.toList ≠ [] then ([],5,((P.length + 1:Nat):Int)) else if 200 < P.length then ([],17,201) else stepsF Rok candR 0 (P.map (·.data.toList)) []):=lH (by rw [HR.out]; exact lin_at _ P S HE.out)
     have HZZ:=lH (HPL9.out P S HE.out)
     obtain ⟨n,hn⟩:∃ n,n = P.length:=⟨_,rfl⟩
     have HN:=lH hn.symm
     have hnz:n <= 1000000:=by have:=HL.out; have:=HM.out; omega
     have e1:IntKind.i64.wrap ((n:Int) + 1) = ((n + 1:Nat):Int):=by rw [IntWalk.i64_in _ (by omega)]; omega
     have HI:=lH (nr_new HLR.out HS0.out HS.out HR2.out)
     have hg:=lH (nr_res HI)
     rw [<- hn] at HRL HI ⊢
     clear HP HPL9 HL HB HE HR hn hk hlt HR2 HS HS0 HLR
     by_cases hs:S.data.toList = []
     rotate_left
     · have q0:(S.toList == ([]:List UInt8)) = false:=by rw [toList_d]; exact beq_eq_false_iff_ne.2 hs
       have HV:Hid (R = ([],5,((n + 1:Nat):Int))):=lH (by rw [HRL.out,if_pos hs])
       have HSL:∀ W,Hid (StepsS W (.slice none 0 0) []):=fun W => lH (SlR.nil _ _)
       clear hs HRL
       go_wp2_with (refine RwL.at_store (ty:=39) rfl ?_; refine wpList_store_row rfl 39 _ _ rfl w.heap.size #[.int .i64 5,.int .i64 ((n + 1:Nat):Int)] (by rfl) (by rfl) _ _ hg.out (f2_info _ _) rfl (f2_one _ _) ?_)
       exact bodyPost_ret (v:=.tuple #[(.slice none 0 0),.agg #[.int .i64 5,.int .i64 ((n + 1:Nat):Int)]]) (results_t_cell Tryz.results16 _ _ _ _ _ _ _ _ rfl rfl (setRow_heap _ _ _ _ _ _ hg.out) Tryz.underlying39 rfl (f2_info _ _)) rfl ⟨_,by rw [HV.out],by rw [HV.out]; exact (HSL _).out,below_setRow HI.out.since (Nat.le_refl _) _⟩
     have q0:(S.toList == ([]:List UInt8)) = true:=by rw [toList_d,hs]; rfl
     by_cases h200:200 < n
     · have t1:decide ((200:Int) < (n:Int)) = true:=decide_eq_true (by omega)
       have HV:Hid (R = ([],17,201)):=lH (by rw [HRL.out,if_neg (fun h9 => h9 hs),if_pos h200])
       have HSL:∀ W,Hid (StepsS W (.slice none 0 0) []):=fun W => lH (SlR.nil _ _)
       clear hs HRL
       go_wp2_with (refine RwL.at_store (ty:=39) rfl ?_; refine wpList_store_row rfl 39 _ _ rfl w.heap.size #[.int .i64 17,.int .i64 201] (by rfl) (by rfl) _ _ hg.out (f2_info _ _) rfl (f2_one _ _) ?_)
       exact bodyPost_ret (v:=.tuple #[(.slice none 0 0),.agg #[.int .i64 17,.int .i64 201]]) (results_t_cell Tryz.results16 _ _ _ _ _ _ _ _ rfl rfl (setRow_heap _ _ _ _ _ _ hg.out) Tryz.underlying39 rfl (f2_info _ _)) rfl ⟨_,by rw [HV.out],by rw [HV.out]; exact (HSL _).out,below_setRow HI.out.since (Nat.le_refl _) _⟩
     have t1:decide ((200:Int) < (n:Int)) = false:=decide_eq_false (by omega)
     have HST:Hid (R = stepsF Rok candR 0 ((P.map (·.data.toList)).drop 0) []):=lH (by rw [HRL.out,if_neg (fun h9 => h9 hs),if_neg h200]; rfl)
     clear hs HRL hg
     go_wp2_with fail
     go_loopw [7,8] (fun s i wz => ∃ (j:Nat) (acc:List St) (V:Value),j <= n /\ i = .int .i64 (j:Int) /\ s = V /\ Hid (R = stepsF Rok candR j ((P.map (·.data.toList)).drop j) acc) /\ Hid (acc.length = j) /\ Hid (NR w w.heap.size (.slice VA n vc) P V acc wz)) (fun _ i _ => n - (intOf i).toNat)
     case atStart => exact ⟨0,[],.slice none 0 0,Nat.zero_le _,rfl,rfl,HST,lH rfl,HI⟩
     case round =>
       clear HI HST
       obtain ⟨j,acc,V,hj,rfl,rfl,HST,HAL,HI⟩:=hrel
       obtain ⟨A6,c6,hV6⟩:=RwL.own_any (nr_own HI)
       subst hV6
       by_cases hlt:j < n
       · obtain ⟨y,hy⟩:∃ y,P[j]? = some y:=⟨P[j]'(by rw [HN.out]; exact hlt),List.getElem?_eq_getElem _⟩
         obtain ⟨b9,o9,c9,hv9,_,_,_,h4⟩:=SlR.form (nr_lines HI) (show 0 < P.length by rw [HN.out]; omega)
         have m4:=h4 j (.string y) (by rw [List.getElem?_map,hy]; rfl)
         obtain ⟨rfl,-,rfl⟩:=Value.slice.inj hv9
         have i1:(0:Int) <= (j:Int):=by omega
         have i2:(j:Int) < (n:Int):=by omega
         have e3:IntKind.i64.wrap ((j:Int) + 1) = (j:Int) + 1:=IntWalk.i64_in _ (by omega)
         have hyz:y.size <= 1000000:=Nat.le_trans (HZZ.out y (List.mem_of_getElem? hy)) HM.out
         have c4:=rpars_k y hyz
         have HDR:=lH (drop_at P j y hy)
         obtain ⟨S9,hS⟩:∃ S,S = (parsV Rok candR y.data.toList).1:=⟨_,rfl⟩
         obtain ⟨e,he⟩:∃ e,e = (parsV Rok candR y.data.toList).2:=⟨_,rfl⟩
         rw [<- hS,<- he] at c4
         have hst2:R = if e = 0 then stepsF Rok candR (j + 1) ((P.map (·.data.toList)).drop (j + 1)) (acc ++ [S9]) else ([],e,(j:Int) + 1):=by
           rw [HST.out,HDR.out,he,hS]
           rfl
         have HS2:=lH hst2
         have hone:=s6_one S9
         unfold sc at c4 hone
         clear hst2 hS he hyz HST hy h4 hv9 HDR
         go_wp2_with fail
         refine c4.calls0 (Kp.keep HT.out HI.out.since) ?_
         intro w5 h5
         replace HI:=nr_step h5 HI
         have hg5:=heap_alloc_new w5 (.cells #[.string ⟨#[]⟩,.string ⟨#[]⟩,.string ⟨#[]⟩,.int .i64 0,.string ⟨#[]⟩,.string ⟨#[]⟩] 23)
         have hd:Since w5 ((w5.alloc (.cells #[.string ⟨#[]⟩,.string ⟨#[]⟩,.string ⟨#[]⟩,.int .i64 0,.string ⟨#[]⟩,.string ⟨#[]⟩] 23)).setRow w5.heap.size #[.string S9.v,.string S9.n,.string S9.o,.int .i64 S9.f,.string S9.t,.string S9.b]):=below_setRow ((Since.refl w5).alloc _) (Nat.le_refl _) _
         have hg6:=setRow_heap _ _ _ #[.string S9.v,.string S9.n,.string S9.o,.int .i64 S9.f,.string S9.t,.string S9.b] _ _ hg5
         replace HI:=nr_step hd HI
         clear h5 hd m4
         have HB1:=lH (show acc.length + 1 <= maxLen by have:=HAL.out; unfold maxLen; omega)
         have HB2:=lH (show (acc.length + 1) * 88 <= 140737488355328 by have:=HAL.out; omega)
         by_cases he:e = 0
         · subst he
           have HS3:Hid (R = stepsF Rok candR (j + 1) ((P.map (·.data.toList)).drop (j + 1)) (acc ++ [S9])):=lH (by rw [HS2.out,if_pos rfl])
           clear HS2
           go_wp2_with (first
             | (refine RwL.at_store (ty:=23) rfl ?_; refine wpList_store_row rfl 23 _ _ rfl w5.heap.size #[.string S9.v,.string S9.n,.string S9.o,.int .i64 S9.f,.string S9.t,.string S9.b] (by rfl) (by rfl) _ _ hg5 (rs6_info _ _ _ _ _ _) rfl hone ?_; obtain ⟨w9,hw9⟩:∃ W,W = (w5.alloc (.cells #[.string ⟨#[]⟩,.string ⟨#[]⟩,.string ⟨#[]⟩,.int .i64 0,.string ⟨#[]⟩,.string ⟨#[]⟩] 23)).setRow w5.heap.size #[.string S9.v,.string S9.n,.string S9.o,.int .i64 S9.f,.string S9.t,.string S9.b]:=⟨_,rfl⟩; rw [<- hw9] at HI hg6; rw [show (w5.alloc (.cells #[.string ⟨#[]⟩,.string ⟨#[]⟩,.string ⟨#[]⟩,.int .i64 0,.string ⟨#[]⟩,.string ⟨#[]⟩] 23)).setRow w5.heap.size #[.string S9.v,.string S9.n,.string S9.o,.int .i64 S9.f,.string S9.t,.string S9.b] = w9 from hw9.symm]; have m0:=row_cell hg6 0 _ rfl; have m1:=row_cell hg6 1 _ rfl; have m2:=row_cell hg6 2 _ rfl; have m3:=row_cell hg6 3 _ rfl; have m4:=row_cell hg6 4 _ rfl; have m5:=row_cell hg6 5 _ rfl; clear hw9 hg5 hg6)
             | (at_builtin; refine app_rows elemRs rfl _ _ (by rfl) w w9 _ rfl [_,_] [] _ acc.length _ (by rfl) HI.out.rows HI.out.since #[.string S9.v,.string S9.n,.string S9.o,.int .i64 S9.f,.string S9.t,.string S9.b] 1 1 (by rfl) rfl (sc_one S9) HB1.out HB2.out ?_; intro V3 w4 HR4 HS4 HK4; have HI4:=nr_app HR4 HS4; clear HR4 HS4 HK4 HI HB1 HB2))
           go_roundw
           case rel => exact ⟨j + 1,acc ++ [S9],V3,hlt,by go_num,rfl,HS3,lH (by rw [List.length_append,HAL.out]; rfl),HI4⟩
           case measure => (simp [intOf] <;> omega)
         · have HV:Hid (R = ([],e,(j:Int) + 1)):=lH (by rw [HS2.out,if_neg he])
           have q1:(e == 0) = false:=beq_eq_false_iff_ne.2 he
           have q2:(e != 0) = true:=by rw [bne,q1]; rfl
           have HSL:∀ W,Hid (StepsS W (.slice none 0 0) []):=fun W => lH (SlR.nil _ _)
           clear HS2 he HB1 HB2
           go_wp2_with (first
             | (refine RwL.at_store (ty:=23) rfl ?_; refine wpList_store_row rfl 23 _ _ rfl w5.heap.size #[.string S9.v,.string S9.n,.string S9.o,.int .i64 S9.f,.string S9.t,.string S9.b] (by rfl) (by rfl) _ _ hg5 (rs6_info _ _ _ _ _ _) rfl hone ?_; obtain ⟨w9,hw9⟩:∃ W,W = (w5.alloc (.cells #[.string ⟨#[]⟩,.string ⟨#[]⟩,.string ⟨#[]⟩,.int .i64 0,.string ⟨#[]⟩,.string ⟨#[]⟩] 23)).setRow w5.heap.size #[.string S9.v,.string S9.n,.string S9.o,.int .i64 S9.f,.string S9.t,.string S9.b]:=⟨_,rfl⟩; rw [<- hw9] at HI hg6; rw [show (w5.alloc (.cells #[.string ⟨#[]⟩,.string ⟨#[]⟩,.string ⟨#[]⟩,.int .i64 0,.string ⟨#[]⟩,.string ⟨#[]⟩] 23)).setRow w5.heap.size #[.string S9.v,.string S9.n,.string S9.o,.int .i64 S9.f,.string S9.t,.string S9.b] = w9 from hw9.symm]; have hg:=lH (nr_res HI); clear hw9 hg5 hg6)
             | (refine RwL.at_store (ty:=39) rfl ?_; refine wpList_store_row rfl 39 _ _ rfl w.heap.size #[.int .i64 e,.int .i64 ((j:Int) + 1)] (by rfl) (by rfl) _ _ hg.out (f2_info _ _) rfl (f2_one _ _) ?_))
           exact bodyPost_ret (v:=.tuple #[(.slice none 0 0),.agg #[.int .i64 e,.int .i64 ((j:Int) + 1)]]) (results_t_cell Tryz.results16 _ _ _ _ _ _ _ _ rfl rfl (setRow_heap _ _ _ _ _ _ hg.out) Tryz.underlying39 rfl (f2_info _ _)) rfl ⟨_,by rw [HV.out],by rw [HV.out]; exact (HSL _).out,below_setRow HI.out.since (Nat.le_refl _) _⟩
       · obtain rfl:j = n:=by omega
         have HV:Hid (R = (acc,0,0)):=lH (by
           rw [HST.out,List.drop_of_length_le (by rw [List.length_map,HN.out]; exact Nat.le_refl _)]
           rfl)
         have hne:=nr_ne HI
         have hsl:StepsS wr (.slice A6 acc.length c6) acc:=SlR.own (nr_own HI)
         have HSL:∀ C,Hid (StepsS (wr.setRow w.heap.size C) (.slice A6 acc.length c6) acc):=fun C => lH (Rcd.slr_row hsl hne C)
         have hg:=lH (nr_res HI)
         clear hne hsl HST
         go_wp2_with (refine RwL.at_store (ty:=39) rfl ?_; refine wpList_store_row rfl 39 _ _ rfl w.heap.size #[.int .i64 0,.int .i64 0] (by rfl) (by rfl) _ _ hg.out (f2_info _ _) rfl (f2_one _ _) ?_)
         exact bodyPost_ret (v:=.tuple #[(.slice A6 acc.length c6),.agg #[.int .i64 0,.int .i64 0]]) (results_t_cell Tryz.results16 _ _ _ _ _ _ _ _ rfl rfl (setRow_heap _ _ _ _ _ _ hg.out) Tryz.underlying39 rfl (f2_info _ _)) rfl ⟨_,by rw [HV.out],by rw [HV.out]; exact (HSL _).out,below_setRow HI.out.since (Nat.le_refl _) _⟩
end Scr
end Go.Proofs.YtcdjfmlanicjlaaGreatDoor
