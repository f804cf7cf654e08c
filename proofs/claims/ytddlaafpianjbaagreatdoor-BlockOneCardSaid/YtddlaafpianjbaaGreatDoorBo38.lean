import Derived.Test.YtddlaafpianjbaaGreatDoorBo37
set_option maxRecDepth 100000
namespace Go.Proofs.YtddlaafpianjbaaGreatDoor
open Go.RowKit
namespace Opt
theorem take_one (s:ByteArray) (k:Nat) (h:k < s.size):s.data.toList.take (k + 1) = s.data.toList.take k ++ [s[k]]:=by
 rw [List.take_succ_eq_append_getElem (show k < s.data.toList.length from h)]; rfl
theorem allB_bad (p:Nat -> Bool) (l:List UInt8) (k:Nat) (h:allB p (l.take k) = false):allB p l = false:=by
 unfold allB at *
 rw [List.all_eq_false] at *
 obtain ⟨x,hx,hx2⟩:=h
 exact ⟨x,List.mem_of_mem_take hx,hx2⟩
theorem allB_all (p:Nat -> Bool) (s:ByteArray) (h:allB p (s.data.toList.take s.size) = true):allB p s.data.toList = true:=by
 rw [List.take_of_length_le (show s.data.toList.length <= s.size from Nat.le_refl _)] at h; exact h
set_option maxHeartbeats 4000000 in
theorem rmay_mak (i d:ByteArray) (hd:d.size <= 140737488355328) (_hi:i.size <= 140737488355328) (v:Bool) (hv:v = may i d):Mak 157 #[.agg #[.string i,.string d]] (.bool v):=by
 intro w
 have hp:=lH (hb_new w KT trivial #[.string i,.string d] 126)
 obtain ⟨_,m0,m1⟩:=hb2 hp
 have HS:=lH hp.out.since
 clear hp
 by_cases h2:i.size = 2
 · have t1:((i.size:Int) != 2) = false:=bne_eq_false_iff_eq.2 (by omega)
   by_cases h3:d.size <= 9000
   · have t2:decide ((9000:Int) < (d.size:Int)) = false:=decide_eq_false (by omega)
     have hv2:v = (allB idN i.data.toList && allB dataN d.data.toList):=by
       rw [hv]; unfold may; rw [decide_eq_true h2,decide_eq_true h3]; simp
     have HV:=lH hv2
     clear hv hv2
     go_enter Tryz.func157,Tryz.ntmps157
     go_wp2_with fail
     go_loop [3,4] (fun x _ => ∃ k:Nat,k <= 2 /\ x = .int .i64 (k:Int) /\ Hid (allB idN (i.data.toList.take k) = true)) (fun x _ => 2 - (intOf x).toNat)
     case atStart => exact ⟨0,by omega,rfl,lH rfl⟩
     case round =>
       obtain ⟨k,hk,rfl,HA⟩:=hrel
       by_cases hlt:k < 2
       · have hki:k < i.size:=by omega
         have hkj:(k:Int) < (i.size:Int):=by omega
         have hk0:(0:Int) <= (k:Int):=by omega
         obtain ⟨q,hq⟩:∃ q,q = idN i[k].toNat:=⟨_,rfl⟩
         have HA2:Hid (allB idN (i.data.toList.take (k + 1)) = q):=lH (by rw [take_one i k hki,allB_snoc,HA.out,<- hq]; rfl)
         have HQ:=lH hq
         clear hq t1 h2
         have h1:(i[k].toNat:Int) < 65 ∨ (65:Int) <= (i[k].toNat:Int):=by omega
         have h2:(90:Int) < (i[k].toNat:Int) ∨ (i[k].toNat:Int) <= 90:=by omega
         have h3:(i[k].toNat:Int) < 48 ∨ (48:Int) <= (i[k].toNat:Int):=by omega
         have h4:(57:Int) < (i[k].toNat:Int) ∨ (i[k].toNat:Int) <= 57:=by omega
         cases q
         · have hbad:v = false:=by rw [HV.out,allB_bad _ _ _ HA2.out]; rfl
           subst hbad
           have hn:=HQ.out.symm
           unfold idN at hn
           rw [Bool.or_eq_false_iff,Bool.and_eq_false_iff,Bool.and_eq_false_iff,decide_eq_false_iff_not,decide_eq_false_iff_not,decide_eq_false_iff_not,decide_eq_false_iff_not] at hn
           rcases h1 with h1 | h1 <;> rcases h2 with h2 | h2 <;> rcases h3 with h3 | h3 <;> rcases h4 with h4 | h4 <;> first | (exfalso; omega) | skip
           all_goals
             clear hn
             go_wp2_with fail
             go_ret
             exact ⟨rfl,HS.out⟩
         · have hn:=HQ.out.symm
           unfold idN at hn
           rw [Bool.or_eq_true,Bool.and_eq_true,Bool.and_eq_true,decide_eq_true_eq,decide_eq_true_eq,decide_eq_true_eq,decide_eq_true_eq] at hn
           rcases h1 with h1 | h1 <;> rcases h2 with h2 | h2 <;> rcases h3 with h3 | h3 <;> rcases h4 with h4 | h4 <;> first | (exfalso; omega) | skip
           all_goals
             clear hn
             go_wp2_with fail
             go_round
             case rel => exact ⟨k + 1,by omega,by go_num,HA2⟩
             case measure => simp [intOf]; omega
       · obtain rfl:k = 2:=by omega
         have HI:Hid (allB idN i.data.toList = true):=lH (by have h9:=HA.out; rw [<- h2] at h9; exact allB_all _ _ h9)
         go_wp2_with fail
         go_loop [5] (fun x => ∃ k:Nat,k <= d.size /\ x = .int .i64 (k:Int) /\ Hid (allB dataN (d.data.toList.take k) = true)) (fun x => d.size - (intOf x).toNat)
         case atStart => exact ⟨0,by omega,rfl,lH rfl⟩
         case round =>
           obtain ⟨k,hk,rfl,HA⟩:=hrel
           by_cases hlt:k < d.size
           · have hkj:(k:Int) < (d.size:Int):=by omega
             have hk0:(0:Int) <= (k:Int):=by omega
             obtain ⟨q,hq⟩:∃ q,q = dataN d[k].toNat:=⟨_,rfl⟩
             have HA2:Hid (allB dataN (d.data.toList.take (k + 1)) = q):=lH (by rw [take_one d k hlt,allB_snoc,HA.out,<- hq]; rfl)
             have HQ:=lH hq
             clear hq
             have h1:(d[k].toNat:Int) < 32 ∨ (32:Int) <= (d[k].toNat:Int):=by omega
             have h4:(126:Int) < (d[k].toNat:Int) ∨ (d[k].toNat:Int) <= 126:=by omega
             cases q
             · have hbad:v = false:=by rw [HV.out,allB_bad _ _ _ HA2.out,Bool.and_false]
               subst hbad
               have hn:=HQ.out.symm
               unfold dataN at hn
               rw [Bool.and_eq_false_iff,decide_eq_false_iff_not,decide_eq_false_iff_not] at hn
               rcases h1 with h1 | h1 <;> rcases h4 with h4 | h4 <;> first | (exfalso; omega) | skip
               all_goals
                 clear hn
                 go_wp2_with fail
                 go_ret
                 exact ⟨rfl,HS.out⟩
             · have hn:=HQ.out.symm
               unfold dataN at hn
               rw [Bool.and_eq_true,decide_eq_true_eq,decide_eq_true_eq] at hn
               rcases h1 with h1 | h1 <;> rcases h4 with h4 | h4 <;> first | (exfalso; omega) | skip
               all_goals
                 clear hn
                 go_wp2_with fail
                 go_round
                 case rel => exact ⟨k + 1,by omega,by go_num,HA2⟩
                 case measure => simp [intOf]; omega
           · obtain rfl:k = d.size:=by omega
             have hgood:v = true:=by rw [HV.out,HI.out,allB_all _ _ HA.out]; rfl
             subst hgood
             go_wp2_with fail
             go_ret
             exact ⟨rfl,HS.out⟩
   · have t2:decide ((9000:Int) < (d.size:Int)) = true:=decide_eq_true (by omega)
     have hv2:v = false:=by rw [hv]; unfold may; rw [decide_eq_false h3]; simp
     clear hv
     subst hv2
     go_enter Tryz.func157,Tryz.ntmps157
     go_wp2_with fail
     go_ret
     exact ⟨rfl,HS.out⟩
 · have t1:((i.size:Int) != 2) = true:=bne_iff_ne.2 (by omega)
   have hv2:v = false:=by rw [hv]; unfold may; rw [decide_eq_false h2]; simp
   clear hv
   subst hv2
   go_enter Tryz.func157,Tryz.ntmps157
   go_wp2_with fail
   go_ret
   exact ⟨rfl,HS.out⟩
theorem renc_bad (i d:ByteArray) (c1:Mak 157 #[.agg #[.string i,.string d]] (.bool false)):Mak 108 #[.agg #[.string i,.string d]] (.tuple #[.string ⟨#[]⟩,.int .i64 5]):=by
 intro w
 have hp:=lH (hb_new w KT trivial #[.string i,.string d] 126)
 obtain ⟨_,m0,m1⟩:=hb2 hp
 have hg:=hp.out.lg
 have HS:=lH hp.out.since
 clear hp
 go_enter Tryz.func108,Tryz.ntmps108
 go_wp2_with fail
 repeat (with_reducible refine c1.calls0 ?_; intro wz hz; replace m0:=(Below.cell hz (by exact hg)).trans m0; replace m1:=(Below.cell hz (by exact hg)).trans m1; replace hg:=Nat.lt_of_lt_of_le hg (Below.size hz); replace HS:=lH (HS.out.step hz); clear hz; try go_wp2_with fail)
 go_ret2
 exact ⟨rfl,HS.out⟩
set_option maxHeartbeats 8000000 in
theorem renc_short (i d P H X Y Z:ByteArray) (n:Nat) (hi:i.size = 2) (hd:d.size <= 9000) (hn:n = d.size + 4 /\ d.size <= 251) (hZi:i = Z) (hH:H.size <= 100) (hZ:Z.size <= 1000) (hY:Z ++ H = Y) (hYs:Y.size <= 1000) (hX:Y ++ d = X) (c1:Mak 157 #[.agg #[.string i,.string d]] (.bool true)) (c2:Mak 62 #[.int .u64 (n:Int),.int .i64 1] (.string P)) (c3:Mak 70 #[.string P] (.string H)):Mak 108 #[.agg #[.string i,.string d]] (.tuple #[.string X,.int .i64 0]):=by
 intro w
 have hp:=lH (hb_new w KT trivial #[.string i,.string d] 126)
 obtain ⟨_,m0,m1⟩:=hb2 hp
 have hg:=hp.out.lg
 have HS:=lH hp.out.since
 have e1:IntKind.i64.wrap ((d.size:Int) + 4) = (n:Int):=by rw [IntWalk.i64_in _ (by omega)]; omega
 have e2:IntKind.u64.wrap (n:Int) = (n:Int):=IntWalk.u64_in _ (by omega)
 have t1:decide ((d.size:Int) <= 251) = true:=(decide_eq_true (by omega))
 have k0:¬ 9223372036854775807 < i.size + 4:=by omega
 have k1:¬ 9223372036854775807 < Z.size + H.size:=by omega
 have k2:¬ 9223372036854775807 < Y.size + d.size:=by omega
 clear hd hH hZ hYs hn hi
 subst hZi
 go_enter Tryz.func108,Tryz.ntmps108
 go_wp2_with fail
 repeat (with_reducible refine c1.calls0 ?_; intro wz hz; replace hp:=lH (hp.out.step hz); replace m0:=(Below.cell hz (by exact hg)).trans m0; replace m1:=(Below.cell hz (by exact hg)).trans m1; replace hg:=Nat.lt_of_lt_of_le hg (Below.size hz); replace HS:=lH (HS.out.step hz); clear hz; try go_wp2_with fail)
 clear HS m0 m1 hg
 go_region_held3 (fun W => Hid (HB w KT w.heap.size #[.string i,.string d] W) /\ W.cell? ⟨w.heap.size,0,none⟩ = some (.string i) /\ W.cell? ⟨w.heap.size,1,none⟩ = some (.string d))
   (first | exact hb2 (by assumption) | exact hb2 (hbdrew (by assumption)))
   (first
     | (go_at_call 62; with_reducible refine c2.calls0 ?_; intro wy hby; have hpy:=hbstep hby (by first | assumption | exact hbdrew (by assumption)); clear hby)
     | (go_at_call 70; with_reducible refine c3.calls0 ?_; intro wy hby; have hpy:=hbstep hby (by first | assumption | exact hbdrew (by assumption)); clear hby))
 all_goals
   go_wp2_with fail
   go_ret2
   exact ⟨rfl,(Hid.out (by first | assumption | exact hbdrew (by assumption)):HB w KT w.heap.size _ _).since⟩
set_option maxHeartbeats 8000000 in
theorem renc_long (i d P H X Y Z:ByteArray) (n:Nat) (hi:i.size = 2) (hd:d.size <= 9000) (hn:n = d.size + 10 /\ 251 < d.size) (hZi:i ++ ⟨#[48,48,48,52]⟩ = Z) (hH:H.size <= 100) (hZ:Z.size <= 1000) (hY:Z ++ H = Y) (hYs:Y.size <= 1000) (hX:Y ++ d = X) (c1:Mak 157 #[.agg #[.string i,.string d]] (.bool true)) (c2:Mak 62 #[.int .u64 (n:Int),.int .i64 2] (.string P)) (c3:Mak 70 #[.string P] (.string H)):Mak 108 #[.agg #[.string i,.string d]] (.tuple #[.string X,.int .i64 0]):=by
 intro w
 have hp:=lH (hb_new w KT trivial #[.string i,.string d] 126)
 obtain ⟨_,m0,m1⟩:=hb2 hp
 have hg:=hp.out.lg
 have HS:=lH hp.out.since
 have e1:IntKind.i64.wrap ((d.size:Int) + 10) = (n:Int):=by rw [IntWalk.i64_in _ (by omega)]; omega
 have e2:IntKind.u64.wrap (n:Int) = (n:Int):=IntWalk.u64_in _ (by omega)
 have t1:decide ((d.size:Int) <= 251) = false:=decide_eq_false (by omega)
 have k0:¬ 9223372036854775807 < i.size + 4:=by omega
 have k1:¬ 9223372036854775807 < Z.size + H.size:=by omega
 have k2:¬ 9223372036854775807 < Y.size + d.size:=by omega
 clear hd hH hZ hYs hn hi
 skip
 go_enter Tryz.func108,Tryz.ntmps108
 go_wp2_with fail
 repeat (with_reducible refine c1.calls0 ?_; intro wz hz; replace hp:=lH (hp.out.step hz); replace m0:=(Below.cell hz (by exact hg)).trans m0; replace m1:=(Below.cell hz (by exact hg)).trans m1; replace hg:=Nat.lt_of_lt_of_le hg (Below.size hz); replace HS:=lH (HS.out.step hz); clear hz; try go_wp2_with fail)
 clear HS m0 m1 hg
 go_region_held3 (fun W => Hid (HB w KT w.heap.size #[.string i,.string d] W) /\ W.cell? ⟨w.heap.size,0,none⟩ = some (.string i) /\ W.cell? ⟨w.heap.size,1,none⟩ = some (.string d))
   (first | exact hb2 (by assumption) | exact hb2 (hbdrew (by assumption)))
   (first
     | (go_at_call 62; with_reducible refine c2.calls0 ?_; intro wy hby; have hpy:=hbstep hby (by first | assumption | exact hbdrew (by assumption)); clear hby)
     | (go_at_call 70; with_reducible refine c3.calls0 ?_; intro wy hby; have hpy:=hbstep hby (by first | assumption | exact hbdrew (by assumption)); clear hby))
 all_goals
   go_wp2_with fail
   go_ret2
   exact ⟨rfl,(Hid.out (by first | assumption | exact hbdrew (by assumption)):HB w KT w.heap.size _ _).since⟩
theorem rencode_mak (i d:ByteArray) (hi:i.size <= 140737488355328) (hd:d.size <= 140737488355328) (X:ByteArray) (E:Int) (hX:X = encX i d) (hE:E = encE i d):Mak 108 #[.agg #[.string i,.string d]] (.tuple #[.string X,.int .i64 E]):=by
 subst hX hE
 have c1:=rmay_mak i d hd hi _ rfl
 unfold encX encE
 cases h:may i d with
 | false => rw [h] at c1; exact renc_bad i d c1
 | true =>
   rw [h] at c1
   obtain ⟨h1,h2⟩:=may_sizes i d h
   rw [if_pos rfl,if_pos rfl]
   have hx:∀ (n:Int) (k:Nat),k <= 8 -> Mak 70 #[.string (bs (RefOct.low n k))] (.string (hexN n k)):=fun n k hk w => RefDig.hex_any _ w (by rw [size_bs,RefOct.low_len]; omega) _ rfl
   by_cases h3:d.size <= 251
   · have c2:Mak 62 #[.int .u64 ((d.size + 4:Nat):Int),.int .i64 1] (.string (bs (RefOct.low ((d.size + 4:Nat):Int) 1))):=fun w => RefOct.put_mid _ 1 w (by omega) (by omega) (by decide) (by decide)
     refine renc_short i d _ (hexN ((d.size:Int) + 4) 1) _ (i ++ hexN ((d.size:Int) + 4) 1) i (d.size + 4) h1 h2 ⟨rfl,h3⟩ rfl (by rw [hexN_size]; decide) (by omega) rfl (by rw [ByteArray.size_append,hexN_size]; omega) ?_ c1 c2 (hx _ 1 (by decide))
     unfold enc; rw [if_pos h3]
   · have c2:Mak 62 #[.int .u64 ((d.size + 10:Nat):Int),.int .i64 2] (.string (bs (RefOct.low ((d.size + 10:Nat):Int) 2))):=fun w => RefOct.put_mid _ 2 w (by omega) (by omega) (by decide) (by decide)
     have h4:(⟨#[48,48,48,52]⟩:ByteArray).size = 4:=rfl
     refine renc_long i d _ (hexN ((d.size:Int) + 10) 2) _ (i ++ ⟨#[48,48,48,52]⟩ ++ hexN ((d.size:Int) + 10) 2) (i ++ ⟨#[48,48,48,52]⟩) (d.size + 10) h1 h2 ⟨rfl,by omega⟩ rfl (by rw [hexN_size]; decide) (by rw [ByteArray.size_append]; omega) rfl (by rw [ByteArray.size_append,ByteArray.size_append,hexN_size]; omega) ?_ c1 c2 (hx _ 2 (by decide))
     unfold enc; rw [if_neg h3]
end Opt
namespace Header
theorem one_len1 (t s:List UInt8) (h:Table.one t s = true):s.length = 1 /\ t ≠ []:=by
 unfold Table.one at h
 split at h
 · refine ⟨rfl,fun h2 => ?_⟩
   rw [h2] at h
   cases h
 · cases h
theorem ver_len (v:List UInt8) (h:Table.verB v = true):v.length = 2:=by
 unfold Table.verB at h
 split at h
 · rfl
 · cases h
theorem line_len2 (u:List UInt8) (h:(Table.lineL u).2.1 ≠ []):u.length = 2:=by
 unfold Table.lineL at h
 split at h
 · rename_i hn
   unfold Table.num at hn
   split at hn
   · rfl
   · cases hn
 · split at h
   · exact absurd rfl h
   · rename_i h0
     cases hf:Table.rows.find? (fun r => r.1 == u) with
     | none => rw [hf] at h; exact absurd rfl h
     | some r =>
       have h1:=List.find?_some hf
       have h2:=List.mem_of_find?_eq_some hf
       rw [beq_iff_eq] at h1
       have hall:∀ r ∈ Table.rows,r.1.length = 2 ∨ r.1 = []:=by decide
       rcases hall r h2 with h3 | h3
       · rw [<- h1]; exact h3
       · rw [h1] at h3; exact absurd h3 h0
theorem okB_lens (u m v e l:List UInt8) (h:Table.okB u m v e l = true):u.length = 2 /\ m.length = 1 /\ v.length = 2 /\ e.length = 1 /\ l.length = 1:=by
 unfold Table.okB at h
 simp only [Bool.and_eq_true] at h
 obtain ⟨⟨⟨h1,h2⟩,h3⟩,h4⟩:=h
 have a:=one_len1 _ _ h1
 exact ⟨line_len2 u a.2,(one_len1 _ _ h2).1,ver_len v h3,(one_len1 _ _ h4).1,a.1⟩
theorem list4 (l:List UInt8) (h:l.length = 4):∃ a b c d,l = [a,b,c,d]:=by
 match l,h with
 | [a,b,c,d],_ => exact ⟨a,b,c,d,rfl⟩
theorem list2 (l:List UInt8) (h:l.length = 2):∃ a b,l = [a,b]:=by
 match l,h with
 | [a,b],_ => exact ⟨a,b,rfl⟩
theorem list1 (l:List UInt8) (h:l.length = 1):∃ a,l = [a]:=by
 match l,h with
 | [a],_ => exact ⟨a,rfl⟩
theorem cat_list (D1 u l m v e D2:ByteArray):(catS D1 u l m v e D2).data.toList = 68 :: (D1.data.toList ++ (u.data.toList ++ (l.data.toList ++ (m.data.toList ++ (v.data.toList ++ (e.data.toList ++ (D2.data.toList ++ [48,48]))))))):=by
 unfold catS
 simp only [app_list,List.append_assoc]
 rfl
theorem dec_enc (n k:Int) (l u m v e rest:ByteArray) (hi:InN n k l.data.toList) (hk:Table.okB u.data.toList m.data.toList v.data.toList e.data.toList l.data.toList = true) :
   (encX n k l u m v e).size = 16 /\ decE (encX n k l u m v e ++ rest) = 0 /\ decV (encX n k l u m v e ++ rest) = C7 n k l u m v e:=by
 obtain ⟨s1,s2,s3,s4,s5⟩:=okB_lens _ _ _ _ _ hk
 have hi2:=hi
 obtain ⟨i1,i2,i3,i4,i5⟩:=hi2
 obtain ⟨n,rfl⟩:=Int.eq_ofNat_of_zero_le i1
 obtain ⟨k,rfl⟩:=Int.eq_ofNat_of_zero_le i3
 unfold encX
 rw [if_pos ⟨hi,hk⟩,Int.toNat_natCast,Int.toNat_natCast]
 have z4:(decS 4 n).data.toList.length = 4:=decS_size 4 n
 have z2:(decS 2 k).data.toList.length = 2:=decS_size 2 k
 have d4:(decS 4 n).data.toList.all Dig.isD = true:=by rw [decS_list]; exact Dig.isD_dec 4 n
 have d2:(decS 2 k).data.toList.all Dig.isD = true:=by rw [decS_list]; exact Dig.isD_dec 2 k
 have n4:Dig.numD (decS 4 n).data.toList = n:=by rw [decS_list,Dig.numD_dec,Nat.mod_eq_of_lt (by omega)]
 have n2:Dig.numD (decS 2 k).data.toList = k:=by rw [decS_list,Dig.numD_dec,Nat.mod_eq_of_lt (by omega)]
 obtain ⟨X,hX⟩:∃ X,X = catS (decS 4 n) u l m v e (decS 2 k):=⟨_,rfl⟩
 have hl:=cat_list (decS 4 n) u l m v e (decS 2 k)
 rw [<- hX] at hl ⊢
 have hl2:(X ++ rest).data.toList = X.data.toList ++ rest.data.toList:=app_list _ _
 obtain ⟨a0,a1,a2,a3,ha⟩:=list4 _ z4
 obtain ⟨b0,b1,hb⟩:=list2 _ s1
 obtain ⟨c0,hc⟩:=list1 _ s5
 obtain ⟨f0,hf⟩:=list1 _ s2
 obtain ⟨g0,g1,hg⟩:=list2 _ s3
 obtain ⟨h0,hh⟩:=list1 _ s4
 obtain ⟨j0,j1,hj⟩:=list2 _ z2
 rw [ha,hb,hc,hf,hg,hh,hj] at hl
 simp only [List.cons_append,List.nil_append] at hl
 rw [hl] at hl2
 simp only [List.cons_append,List.nil_append] at hl2
 have hsz:X.size = 16:=by
   have:X.data.toList.length = X.size:=rfl
   rw [hl] at this
   exact this.symm
 have e0:((X ++ rest).extract 0 1).data.toList = [68]:=by rw [ext_list,hl2]; rfl
 have e1:(X ++ rest).extract 1 5 = decS 4 n:=by apply ba_ext; rw [ext_list,hl2,ha]; rfl
 have e2:(X ++ rest).extract 5 7 = u:=by apply ba_ext; rw [ext_list,hl2,hb]; rfl
 have e3:(X ++ rest).extract 7 8 = l:=by apply ba_ext; rw [ext_list,hl2,hc]; rfl
 have e4:(X ++ rest).extract 8 9 = m:=by apply ba_ext; rw [ext_list,hl2,hf]; rfl
 have e5:(X ++ rest).extract 9 11 = v:=by apply ba_ext; rw [ext_list,hl2,hg]; rfl
 have e6:(X ++ rest).extract 11 12 = e:=by apply ba_ext; rw [ext_list,hl2,hh]; rfl
 have e7:(X ++ rest).extract 12 14 = decS 2 k:=by apply ba_ext; rw [ext_list,hl2,hj]; rfl
 have e8:((X ++ rest).extract 14 16).data.toList = [48,48]:=by rw [ext_list,hl2]; rfl
 have hF:Form (X ++ rest):=by
   refine ⟨by rw [ByteArray.size_append]; omega,by rw [toList_d]; exact e0,by rw [e1]; exact d4,by rw [e7]; exact d2,by rw [toList_d]; exact e8,by rw [e3]; exact i5⟩
 have hO:okS (X ++ rest) = true:=by
   unfold okS
   rw [e2,e3,e4,e5,e6]
   exact hk
 refine ⟨hsz, ?_, ?_⟩
 · unfold decE
   rw [if_pos hF,if_pos hO]
 · unfold decV
   rw [if_pos ⟨hF,hO⟩,e1,e2,e3,e4,e5,e6,e7,n4,n2]
theorem list16 (l:List UInt8) (h:16 <= l.length):∃ a0 a1 a2 a3 a4 a5 a6 a7 a8 a9 a10 a11 a12 a13 a14 a15 t,l = a0 :: a1 :: a2 :: a3 :: a4 :: a5 :: a6 :: a7 :: a8 :: a9 :: a10 :: a11 :: a12 :: a13 :: a14 :: a15 :: t:=by
 match l,h with
 | a0 :: a1 :: a2 :: a3 :: a4 :: a5 :: a6 :: a7 :: a8 :: a9 :: a10 :: a11 :: a12 :: a13 :: a14 :: a15 :: t,_ => exact ⟨a0,a1,a2,a3,a4,a5,a6,a7,a8,a9,a10,a11,a12,a13,a14,a15,t,rfl⟩
theorem dec_cases (s:ByteArray):(decE s ≠ 0 /\ decV s = Z7) ∨ (decE s = 0 /\ Form s /\ okS s = true):=by
 unfold decE decV
 by_cases hf:Form s
 · by_cases hk:okS s = true
   · right
     rw [if_pos hf,if_pos hk]
     exact ⟨rfl,hf,hk⟩
   · left
     rw [if_pos hf,if_neg hk,if_neg (fun h => hk h.2)]
     exact ⟨by decide,rfl⟩
 · left
   rw [if_neg hf,if_neg (fun h => hf h.1)]
   exact ⟨by decide,rfl⟩
theorem enc_dec (s:ByteArray) (hF:Form s) (hk:okS s = true):∃ (n k:Nat) (l u m v e:ByteArray),decV s = C7 n k l u m v e /\ u.size <= 100 /\ m.size <= 100 /\ v.size <= 100 /\ e.size <= 100 /\ encX n k l u m v e = s.extract 0 16 /\ encE n k l u m v e = 0:=by
 have hV:decV s = C7 (Dig.numD (s.extract 1 5).data.toList:Int) (Dig.numD (s.extract 12 14).data.toList:Int) (s.extract 7 8) (s.extract 5 7) (s.extract 8 9) (s.extract 9 11) (s.extract 11 12):=by
   unfold decV
   rw [if_pos ⟨hF,hk⟩]
 obtain ⟨f0,f1,f2,f3,f4,f5⟩:=hF
 have z1:(s.extract 1 5).size = 4:=by rw [ByteArray.size_extract]; omega
 have z2:(s.extract 12 14).size = 2:=by rw [ByteArray.size_extract]; omega
 have hn:=Dig.numD_lt (s.extract 1 5).data.toList 4 f2 (Nat.le_of_eq z1)
 have hm:=Dig.numD_lt (s.extract 12 14).data.toList 2 f3 (Nat.le_of_eq z2)
 have hi:InN (Dig.numD (s.extract 1 5).data.toList:Int) (Dig.numD (s.extract 12 14).data.toList:Int) (s.extract 7 8).data.toList:=⟨by omega,by omega,by omega,by omega,f5⟩
 refine ⟨_,_,_,_,_,_,_,hV,by rw [ByteArray.size_extract]; omega,by rw [ByteArray.size_extract]; omega,by rw [ByteArray.size_extract]; omega,by rw [ByteArray.size_extract]; omega, ?_, ?_⟩
 · unfold encX
   unfold okS at hk
   rw [if_pos ⟨hi,hk⟩,Int.toNat_natCast,Int.toNat_natCast,decS_back 4 _ z1 f2,decS_back 2 _ z2 f3]
   apply ba_ext
   rw [cat_list]
   rw [toList_d] at f1 f4
   simp only [ext_list] at f1 f4 ⊢
   obtain ⟨a0,a1,a2,a3,a4,a5,a6,a7,a8,a9,a10,a11,a12,a13,a14,a15,t,hs⟩:=list16 s.data.toList f0
   rw [hs] at f1 f4 ⊢
   have g1:a0 = 68:=by simpa using f1
   have g2:a14 = 48 /\ a15 = 48:=by simpa using f4
   rw [g1,g2.1,g2.2]
   rfl
 · unfold encE
   unfold okS at hk
   rw [if_pos hi,if_pos hk]
end Header
namespace Header
end Header
end Go.Proofs.YtddlaafpianjbaaGreatDoor
