import Derived.Test.YtpanhhjkecebkaaGreatPt3
import Derived.StillTailTactics
import Derived.Test.YtpanhhjkecebkaaGreatPt13
import Derived.Test.YtpanhhjkecebkaaGreatPt23
set_option maxRecDepth 100000
namespace Go
end Go
set_option maxRecDepth 100000
namespace Go.Proofs.YtpanhhjkecebkaaGreat
open Go.RowKit
namespace Oid
set_option maxHeartbeats 4000000 in
theorem rright_any (w:World) (v:Value) (xs:List Int) (hv:IntsS w v xs) (q:Bool) (hq:q = decide (Ok xs)) :
   Calls Tryz.prog 101 #[v] w fun e w' => e = .returned (.bool q) /\ w = w':=by
 obtain ⟨A,c,hvs,hc1,hc2⟩:=hv.slice;have hle:=hv.le;obtain ⟨n,hn⟩:∃ n,xs.length = n:=⟨_,rfl⟩
 by_cases h2:n < 2
 · obtain rfl:q = false:=by rw [hq]; exact ok_lt xs (by omega)
   have t1:decide ((n:Int) < 2) = true:=decide_eq_true (by omega);rw [hvs,hn];rw [hn] at hle;clear hq hv hvs hn h2 hc1 hc2
   go_enter Tryz.func101,Tryz.ntmps101
   go_wp2_with fail;go_ret;exact ⟨rfl,rfl⟩
 · have t1:decide ((n:Int) < 2) = false:=decide_eq_false (by omega)
   by_cases h20:20 < n
   · obtain rfl:q = false:=by rw [hq]; exact ok_lt xs (by omega)
     have t2:decide ((20:Int) < (n:Int)) = true:=decide_eq_true (by omega);rw [hvs,hn];rw [hn] at hle;clear hq hv hvs hn h2 h20 hc1 hc2
     go_enter Tryz.func101,Tryz.ntmps101
     go_wp2_with fail;go_ret;exact ⟨rfl,rfl⟩
   · have t2:decide ((20:Int) < (n:Int)) = false:=decide_eq_false (by omega);obtain ⟨b,o,c,rfl,hc1,hc2,hlt,hcell⟩:=hv.form (by omega);have k0:=hcell 0 (by omega);rw [Nat.add_zero] at k0;obtain ⟨x0,hx0⟩:∃ x,x = xs.getD 0 0:=⟨_,rfl⟩
     rw [<- hx0] at k0;rw [hn] at hc1 hle hcell ⊢;have i9:0 < n:=by omega
     by_cases g1:x0 < 0
     · obtain rfl:q = false:=by rw [hq]; exact ok_lt xs (by omega)
       have t3:decide (x0 < 0) = true:=decide_eq_true g1;clear hq hv hn hx0 hcell g1 h2 h20 hc1 hc2
       go_enter Tryz.func101,Tryz.ntmps101
       go_wp2_with fail;go_ret;exact ⟨rfl,rfl⟩
     · have t3:decide (x0 < 0) = false:=decide_eq_false g1
       by_cases g2:2 < x0
       · obtain rfl:q = false:=by rw [hq]; exact ok_lt xs (by omega)
         have t4:decide (2 < x0) = true:=decide_eq_true g2;clear hq hv hn hx0 hcell g1 g2 h2 h20 hc1 hc2
         go_enter Tryz.func101,Tryz.ntmps101
         go_wp2_with fail;go_ret;exact ⟨rfl,rfl⟩
       · have t4:decide (2 < x0) = false:=decide_eq_false g2;have i0:0 <= x0:=by omega
         have i2:x0 <= 2:=by omega
         have HC:=lH hcell;have HL:Hid (xs.length = n):=lH hn;have HQ:=lH hq;have HX0:=lH hx0;have hm9:n <= 20:=by omega
         have hm1:2 <= n:=by omega
         clear hq hv hn hx0 g1 g2 h2 h20 hc1 hc2 hcell
         go_enter Tryz.func101,Tryz.ntmps101
         go_wp2_with fail
         go_loop [3] (fun i => ∃ k:Nat,1 <= k /\ k <= n /\ i = .int .i64 (k:Int) /\ Hid (∀ j,j + 1 < k -> 0 <= xs.getD (j + 1) 0 /\ xs.getD (j + 1) 0 <= mst x0 j)) (fun i => n - (intOf i).toNat)
         case atStart => exact ⟨1,by omega,by omega,rfl,lH (fun j hj => by omega)⟩
         case round =>
           obtain ⟨k,hk1,hk,rfl,HA⟩:=hrel
           by_cases hlt:k < n
           · have hck:=HC.out k hlt;obtain ⟨x,hx⟩:∃ x,x = xs.getD k 0:=⟨_,rfl⟩
             rw [<- hx] at hck;obtain ⟨M,hM⟩:∃ M,M = mst x0 (k - 1):=⟨_,rfl⟩
             have Hx:=lH hx;clear hx
             by_cases hk0:k = 1
             · have t6:((k:Int) == 1) = true:=by rw [beq_iff_eq]; omega
               obtain rfl:M = if x0 = 2 then 2147483567 else 39:=by rw [hM,hk0]; rfl
               have HK1:=lH hk0;clear hk0 hM
               by_cases g3:x0 = 2
               · have t5:decide (x0 < 2) = false:=decide_eq_false (by omega);have HM:Hid ((2147483567:Int) = mst x0 (k - 1)):=lH (by rw [HK1.out]; unfold mst; rw [if_pos rfl,if_pos g3]);clear g3
                 by_cases g1:x < 0
                 · have g1d:decide (x < 0) = true:=decide_eq_true g1;obtain rfl:q = false:=by
                     rw [HQ.out];refine ok_bad xs (k - 1) (by have:=HL.out; omega) ?_;rw [show k - 1 + 1 = k from by omega,<- Hx.out]; omega
                   clear g1;go_wp2_with fail;go_ret;exact ⟨rfl,rfl⟩
                 · have g1d:decide (x < 0) = false:=decide_eq_false g1
                   by_cases g2:2147483567 < x
                   · have g2d:decide (2147483567 < x) = true:=decide_eq_true g2;obtain rfl:q = false:=by
                       rw [HQ.out];refine ok_bad xs (k - 1) (by have:=HL.out; omega) ?_;rw [show k - 1 + 1 = k from by omega,<- Hx.out,<- HX0.out,<- HM.out]; omega
                     clear g1 g2;go_wp2_with fail;go_ret;exact ⟨rfl,rfl⟩
                   · have g2d:decide (2147483567 < x) = false:=decide_eq_false g2;have hA2:∀ j,j + 1 < k + 1 -> 0 <= xs.getD (j + 1) 0 /\ xs.getD (j + 1) 0 <= mst x0 j:=fun j hj => by
                       by_cases h9:j = k - 1
                       · rw [h9,<- HM.out,show k - 1 + 1 = k from by omega,<- Hx.out]; omega
                       · exact HA.out j (by omega)
                     have HA2:=lH hA2;clear hA2;clear g1 g2;go_wp2_with fail
                     go_round
                     case rel => exact ⟨k + 1,by omega,by omega,by go_num,HA2⟩
                     case measure => simp [intOf]; omega
               · have t5:decide (x0 < 2) = true:=decide_eq_true (by omega);have HM:Hid ((39:Int) = mst x0 (k - 1)):=lH (by rw [HK1.out]; unfold mst; rw [if_pos rfl,if_neg g3]);clear g3
                 by_cases g1:x < 0
                 · have g1d:decide (x < 0) = true:=decide_eq_true g1;obtain rfl:q = false:=by
                     rw [HQ.out];refine ok_bad xs (k - 1) (by have:=HL.out; omega) ?_;rw [show k - 1 + 1 = k from by omega,<- Hx.out]; omega
                   clear g1;go_wp2_with fail;go_ret;exact ⟨rfl,rfl⟩
                 · have g1d:decide (x < 0) = false:=decide_eq_false g1
                   by_cases g2:39 < x
                   · have g2d:decide (39 < x) = true:=decide_eq_true g2;obtain rfl:q = false:=by
                       rw [HQ.out];refine ok_bad xs (k - 1) (by have:=HL.out; omega) ?_;rw [show k - 1 + 1 = k from by omega,<- Hx.out,<- HX0.out,<- HM.out]; omega
                     clear g1 g2;go_wp2_with fail;go_ret;exact ⟨rfl,rfl⟩
                   · have g2d:decide (39 < x) = false:=decide_eq_false g2;have hA2:∀ j,j + 1 < k + 1 -> 0 <= xs.getD (j + 1) 0 /\ xs.getD (j + 1) 0 <= mst x0 j:=fun j hj => by
                       by_cases h9:j = k - 1
                       · rw [h9,<- HM.out,show k - 1 + 1 = k from by omega,<- Hx.out]; omega
                       · exact HA.out j (by omega)
                     have HA2:=lH hA2;clear hA2;clear g1 g2;go_wp2_with fail
                     go_round
                     case rel => exact ⟨k + 1,by omega,by omega,by go_num,HA2⟩
                     case measure => simp [intOf]; omega
             · have t6:((k:Int) == 1) = false:=by rw [beq_eq_false_iff_ne]; omega
               have HM:Hid ((2147483647:Int) = mst x0 (k - 1)):=lH (by unfold mst; rw [if_neg (by omega)]);clear hM hk0
               by_cases g1:x < 0
               · have g1d:decide (x < 0) = true:=decide_eq_true g1;obtain rfl:q = false:=by
                   rw [HQ.out];refine ok_bad xs (k - 1) (by have:=HL.out; omega) ?_;rw [show k - 1 + 1 = k from by omega,<- Hx.out]; omega
                 clear g1;go_wp2_with fail;go_ret;exact ⟨rfl,rfl⟩
               · have g1d:decide (x < 0) = false:=decide_eq_false g1
                 by_cases g2:2147483647 < x
                 · have g2d:decide (2147483647 < x) = true:=decide_eq_true g2;obtain rfl:q = false:=by
                     rw [HQ.out];refine ok_bad xs (k - 1) (by have:=HL.out; omega) ?_;rw [show k - 1 + 1 = k from by omega,<- Hx.out,<- HX0.out,<- HM.out]; omega
                   clear g1 g2;go_wp2_with fail;go_ret;exact ⟨rfl,rfl⟩
                 · have g2d:decide (2147483647 < x) = false:=decide_eq_false g2;have hA2:∀ j,j + 1 < k + 1 -> 0 <= xs.getD (j + 1) 0 /\ xs.getD (j + 1) 0 <= mst x0 j:=fun j hj => by
                     by_cases h9:j = k - 1
                     · rw [h9,<- HM.out,show k - 1 + 1 = k from by omega,<- Hx.out]; omega
                     · exact HA.out j (by omega)
                   have HA2:=lH hA2;clear hA2;clear g1 g2;go_wp2_with fail
                   go_round
                   case rel => exact ⟨k + 1,by omega,by omega,by go_num,HA2⟩
                   case measure => simp [intOf]; omega
           · have hd1:decide (k < n) = false:=decide_eq_false (by omega);obtain rfl:q = true:=by
               rw [HQ.out];refine ok_all xs (by have:=HL.out; omega) (by have:=HL.out; omega) (by rw [<- HX0.out]; exact i0) (by rw [<- HX0.out]; exact i2) fun j hj => ?_
               rw [<- HX0.out];exact HA.out j (by have:=HL.out; omega)
             go_wp2_with fail;go_ret;exact ⟨rfl,rfl⟩
theorem encN_snoc (l:List Nat) (n:Nat):encN (l ++ [n]) = encN l ++ num n:=by simp [encN]
theorem encN_len (l:List Nat) (h:∀ n ∈ l,n <= 2147483647):(encN l).length <= 5 * l.length:=by
 induction l with
 | nil => simp [encN]
 | cons n l ih =>
   rw [show encN (n :: l) = num n ++ encN l from rfl,List.length_append,List.length_cons];have:=ih fun m hm => h m (by simp [hm])
   have:=num_len n (by have:=h n (by simp); omega);omega
theorem number_int (x:Int) (h0:0 <= x) (h1:x < 34359738368) (X:ByteArray) (hX:X = bs (num x.toNat)):Mak 95 #[.int .i64 x] (.string X):=by
 obtain ⟨n,rfl⟩:=Int.eq_ofNat_of_zero_le h0;exact number_mak n (by omega) X (by rw [hX]; rfl)
theorem rnumber_int (x:Int) (h0:0 <= x) (h1:x < 34359738368) (X:ByteArray) (hX:X = bs (num x.toNat)):Mak 102 #[.int .i64 x] (.string X):=by
 obtain ⟨n,rfl⟩:=Int.eq_ofNat_of_zero_le h0;exact rnumber_mak n (by omega) X (by rw [hX]; rfl)
def encU (xs:List Int) (k:Nat):List UInt8:=num (40 * xs.getD 0 0 + xs.getD 1 0).toNat ++ encN (((xs.drop 2).take k).map Int.toNat)
theorem encU_0 (xs:List Int):encU xs 0 = num (40 * xs.getD 0 0 + xs.getD 1 0).toNat:=by simp [encU,encN]
theorem encU_succ (xs:List Int) (k:Nat) (h:k + 2 < xs.length):encU xs (k + 1) = encU xs k ++ num (xs.getD (k + 2) 0).toNat:=by
 unfold encU;rw [List.take_succ_eq_append_getElem (by rw [List.length_drop]; omega),List.map_append,List.map_singleton,encN_snoc,List.append_assoc]
 congr 4
 rw [List.getElem_drop];simp [List.getD,List.getElem?_eq_getElem h,Nat.add_comm]
theorem encU_all (xs:List Int) (h:Ok xs) (k:Nat) (hk:xs.length = k + 2):encU xs k = enc xs:=by
 match xs,h with
 | a :: b :: r,h =>
   simp only [List.length_cons] at hk;unfold encU enc;simp only [List.getD_cons_zero,List.getD_cons_succ,List.drop_succ_cons,List.drop_zero];rw [List.take_of_length_le (by omega)]
theorem encU_len (xs:List Int) (h:Ok xs) (k:Nat):(encU xs k).length <= 200:=by
 match xs,h with
 | a :: b :: r,⟨hr,ha,ha2,hb,hb2,hx⟩ =>
   unfold encU;simp only [List.getD_cons_zero,List.getD_cons_succ,List.drop_succ_cons,List.drop_zero];rw [List.length_append];have h1:=num_len (40 * a + b).toNat (by omega);have h2:=encN_len ((r.take k).map Int.toNat) (fun n hn => by
     obtain ⟨x,hx2,rfl⟩:=List.mem_map.1 hn;have:=hx x (List.mem_of_mem_take hx2); omega)
   rw [List.length_map,List.length_take] at h2;omega
theorem ok_at (xs:List Int) (h:Ok xs) (k:Nat) (hk:k < xs.length):0 <= xs.getD k 0 /\ xs.getD k 0 <= 2147483647:=by
 obtain ⟨h1,h2,h3,h4,h5⟩:=(ok_iff xs).1 h;cases k with
 | zero => omega
 | succ k =>
   have:=h5 k hk;unfold mst at this
   split at this <;> (try split at this) <;> omega
theorem encode_no (w:World) (v:Value) (xs:List Int) (hv:IntsS w v xs) (hk:¬ Ok xs) :
   Calls Tryz.prog 50 #[v] w fun e w' => e = .returned (.tuple #[.string ⟨#[]⟩,.bool false]) /\ w = w':=by
 have c1:=right_any w v xs hv false (decide_eq_false hk).symm;obtain ⟨A,c,rfl,_,_⟩:=hv.slice;clear hk hv
 go_enter Tryz.func50,Tryz.ntmps50
 go_wp2_with fail;refine c1.mono ?_;rintro e w1 ⟨rfl,rfl⟩;go_wp2_with fail;go_ret2;exact ⟨rfl,rfl⟩
theorem rencode_no (w:World) (v:Value) (xs:List Int) (hv:IntsS w v xs) (hk:¬ Ok xs) :
   Calls Tryz.prog 55 #[v] w fun e w' => e = .returned (.tuple #[.string ⟨#[]⟩,.bool false]) /\ w = w':=by
 have c1:=rright_any w v xs hv false (decide_eq_false hk).symm;obtain ⟨A,c,rfl,_,_⟩:=hv.slice;clear hk hv
 go_enter Tryz.func55,Tryz.ntmps55
 go_wp2_with fail;refine c1.mono ?_;rintro e w1 ⟨rfl,rfl⟩;go_wp2_with fail;go_ret2;exact ⟨rfl,rfl⟩
set_option maxHeartbeats 4000000 in
theorem encode_yes (w:World) (v:Value) (xs:List Int) (hv:IntsS w v xs) (hk:Ok xs) (X:ByteArray) (hX:X = bs (enc xs)) :
   Calls Tryz.prog 50 #[v] w fun e w' => e = .returned (.tuple #[.string X,.bool true]) /\ Since w w':=by
 have H0:=lH (Since.refl w);have c1:=right_any w v xs hv true (decide_eq_true hk).symm;have hiff:=(ok_iff xs).1 hk;obtain ⟨b,o,c,rfl,hc1,hc2,hlt,hcell⟩:=hv.form (by omega);obtain ⟨n,hn⟩:∃ n,xs.length = n:=⟨_,rfl⟩
 obtain ⟨m,hm⟩:∃ m,n = 2 + m:=⟨n - 2,by omega⟩
 obtain ⟨d,hd⟩:∃ d,c = 2 + d:=⟨c - 2,by omega⟩
 have hv2:SlR w 1 (.slice (some ⟨b,o,none⟩) n c) n (xs.map (Value.int .i64)):=by rw [<- hn]; exact hv
 rw [hn] at hcell hc1 c1 ⊢;obtain ⟨A',hT,hrun⟩:=hv2.tail Tryz.underlying44 size_i 2 m d hm hd;have hrun0:∀ W,(Instr.slice 44 (.slice (some ⟨b,o,none⟩) n c) (some (.int .i64 2)) none none).run Tryz.prog W = .ok (.slice A' m d) W:=hrun;have k0:=hcell 0 (by omega);have k1:=hcell 1 (by omega);rw [Nat.add_zero] at k0;have b0:=ok_at xs hk 0 (by omega);have b1:=ok_at xs hk 1 (by omega);obtain ⟨p,hp⟩:∃ p,p = xs.getD 0 0:=⟨_,rfl⟩
 obtain ⟨q,hq⟩:∃ q,q = xs.getD 1 0:=⟨_,rfl⟩
 rw [<- hp] at k0 b0;rw [<- hq] at k1 b1;have hp2:p <= 2:=by rw [hp]; exact hiff.2.2.2.1
 have e1:IntKind.i64.wrap (40 * p) = 40 * p:=IntWalk.i64_in _ (by omega);have e2:IntKind.i64.wrap (40 * p + q) = 40 * p + q:=IntWalk.i64_in _ (by omega);obtain ⟨S,hS⟩:∃ S,S = bs (encU xs 0):=⟨_,rfl⟩
 have c2:=number_int (40 * p + q) (by omega) (by omega) S (by rw [hS,encU_0,hp,hq]);have HT:=lH hT;have HX:Hid (X = bs (encU xs m)):=lH (by rw [hX,encU_all xs hk m (by omega)]);have HK:=lH hk;have HS:=lH hS;have HN:Hid (xs.length = 2 + m):=lH (by omega);have i9:(1:Int) < (n:Int):=by omega
 have i7:0 < n /\ 1 < n:=by omega
 have i8:(0:Int) < (n:Int):=by omega
 have hm9:m <= 18:=by omega
 have hS9:S.size <= 200:=by rw [hS,size_bs]; exact encU_len xs hk 0
 clear hk hv hv2 hT hrun hcell hc1 hc2 hX hp hq hS hiff hn hm hd;have H_c1:=lH c1;clear c1
 go_enter Tryz.func50,Tryz.ntmps50
 go_wp2_with fail;refine H_c1.out.mono ?_;rintro e w1 ⟨rfl,rfl⟩;go_wp2_with fail;refine wp_region_still_tail 8 (by kernel_rfl) (by kernel_rfl) ?_;simp only [List.take_succ_cons,List.take_zero,List.drop_succ_cons,List.drop_zero]
 change wpStill _ _ w.drew (fun a' => wpList _ _ _ _ a' w.drew) _ _
 repeat (refine wpStill_step (fun K hK => ?_); go_simp; refine hK _ ?_; clear hK K)
 refine wpStill_nil ?_;clear e1 e2;have H0d:=lH (Since.drew H0.out);go_wp2_with fail;refine c2.calls H0d.out ?_;intro w2 h2;have H2:=lH h2;clear h2 c2;go_wp2_with fail;go_loopw [4,22] (fun s i wr => ∃ (k:Nat) (O:ByteArray),k <= m /\ i = .int .i64 (k:Int) /\ s = .string O /\ O.size <= 200 /\ Hid (O = bs (encU xs k)) /\ Hid (Since w wr)) (fun _ i _ => m - (intOf i).toNat)
 case atStart => exact ⟨0,S,by omega,rfl,rfl,hS9,HS,H2⟩
 case round =>
   obtain ⟨k,O,hk,rfl,rfl,hO9,HO,HSW⟩:=hrel
   by_cases hlt2:k < m
   · obtain ⟨b',o',c',hA',_,_,hlt',hc'⟩:=HT.out.form (by omega);obtain ⟨rfl,-,-⟩:=Value.slice.inj hA';clear hA';have hck:=hc' k (.int .i64 (xs.getD (k + 2) 0)) (by
       rw [List.getElem?_drop,List.getElem?_map,Nat.add_comm 2 k];simp [List.getD,show k + 2 < xs.length from by have:=HN.out; omega])
     have hck2:=(HSW.out.below.cell (p:=⟨b',o' + k,none⟩) hlt').trans hck;have hb:=ok_at xs HK.out (k + 2) (by have:=HN.out; omega);have hU:=encU_succ xs k (by have:=HN.out; omega);have hl9:=encU_len xs HK.out (k + 1);obtain ⟨x,hx⟩:∃ x,x = xs.getD (k + 2) 0:=⟨_,rfl⟩
     rw [<- hx] at hck2 hb hU;obtain ⟨P,hP⟩:∃ P,P = bs (num x.toNat):=⟨_,rfl⟩
     have c3:=number_int x (by omega) (by omega) P hP;have hU2:O ++ P = bs (encU xs (k + 1)):=by
       apply ba_ext
       rw [app_list,HO.out,hP,list_bs,list_bs,list_bs,hU]
     have hP9:O.size + P.size <= 200:=by
       have h9:(O ++ P).size <= 200:=by rw [hU2,size_bs]; exact hl9
       rwa [ByteArray.size_append] at h9
     have hsz:¬ 9223372036854775807 < O.size + P.size:=by omega
     have hO2s:(O ++ P).size <= 200:=by rw [ByteArray.size_append]; exact hP9
     obtain ⟨O2,hO2⟩:∃ O2,O ++ P = O2:=⟨_,rfl⟩
     rw [hO2] at hU2 hO2s;clear hc' hck hx hU hl9 hP hb;have HU2:=lH hU2;clear hU2;go_wp2_with fail;refine c3.calls HSW.out ?_;intro w3 h3;have H3:=lH h3;clear h3;go_wp2_with fail;go_roundw
     case rel => exact ⟨k + 1,O2,by omega,by go_num,rfl,hO2s,HU2,H3⟩
     case measure => simp [intOf]; omega
   · obtain rfl:k = m:=by omega
     obtain rfl:X = O:=by rw [HX.out,HO.out]
     go_wp2_with fail;go_ret2;exact ⟨rfl,HSW.out⟩
end Oid
namespace Oid
set_option maxHeartbeats 4000000 in
theorem rencode_yes (w:World) (v:Value) (xs:List Int) (hv:IntsS w v xs) (hk:Ok xs) (X:ByteArray) (hX:X = bs (enc xs)) :
   Calls Tryz.prog 55 #[v] w fun e w' => e = .returned (.tuple #[.string X,.bool true]) /\ Since w w':=by
 have H0:=lH (Since.refl w);have c1:=rright_any w v xs hv true (decide_eq_true hk).symm;have hiff:=(ok_iff xs).1 hk;obtain ⟨b,o,c,rfl,hc1,hc2,hlt,hcell⟩:=hv.form (by omega);obtain ⟨n,hn⟩:∃ n,xs.length = n:=⟨_,rfl⟩
 obtain ⟨m,hm⟩:∃ m,n = 2 + m:=⟨n - 2,by omega⟩
 rw [hn] at hcell hc1 c1 ⊢;have k0:=hcell 0 (by omega);have k1:=hcell 1 (by omega);rw [Nat.add_zero] at k0;have b0:=ok_at xs hk 0 (by omega);have b1:=ok_at xs hk 1 (by omega);obtain ⟨p,hp⟩:∃ p,p = xs.getD 0 0:=⟨_,rfl⟩
 obtain ⟨q,hq⟩:∃ q,q = xs.getD 1 0:=⟨_,rfl⟩
 rw [<- hp] at k0 b0;rw [<- hq] at k1 b1;have hp2:p <= 2:=by rw [hp]; exact hiff.2.2.2.1
 have e1:IntKind.i64.wrap (40 * p) = 40 * p:=IntWalk.i64_in _ (by omega);have e2:IntKind.i64.wrap (40 * p + q) = 40 * p + q:=IntWalk.i64_in _ (by omega);obtain ⟨S,hS⟩:∃ S,S = bs (encU xs 0):=⟨_,rfl⟩
 have c2:=rnumber_int (40 * p + q) (by omega) (by omega) S (by rw [hS,encU_0,hp,hq]);have HX:Hid (X = bs (encU xs m)):=lH (by rw [hX,encU_all xs hk m (by omega)]);have HK:=lH hk;have HS:Hid (S = bs (encU xs (2 - 2))):=lH hS;have HN:Hid (xs.length = n):=lH hn;have HM:Hid (n = 2 + m):=lH hm;have HC:=lH hcell;have i9:(1:Int) < (n:Int):=by omega
 have i8:(0:Int) < (n:Int):=by omega
 have i7:0 < n /\ 1 < n:=by omega
 have hm9:n <= 20:=by omega
 have hS9:S.size <= 200:=by rw [hS,size_bs]; exact encU_len xs hk 0
 clear hk hv hcell hc1 hc2 hX hp hq hS hiff hn hm;have H_c1:=lH c1;clear c1
 go_enter Tryz.func55,Tryz.ntmps55
 go_wp2_with fail;refine H_c1.out.mono ?_;rintro e w1 ⟨rfl,rfl⟩;go_wp2_with fail;refine wp_region_still_tail 8 (by kernel_rfl) (by kernel_rfl) ?_;simp only [List.take_succ_cons,List.take_zero,List.drop_succ_cons,List.drop_zero]
 change wpStill _ _ w.drew (fun a' => wpList _ _ _ _ a' w.drew) _ _
 repeat (refine wpStill_step (fun K hK => ?_); go_simp; refine hK _ ?_; clear hK K)
 refine wpStill_nil ?_;clear e1 e2;have H0d:=lH (Since.drew H0.out);go_wp2_with fail;refine c2.calls H0d.out ?_;intro w2 h2;have H2:=lH h2;clear h2 c2;go_wp2_with fail;go_loopw [4,5] (fun s i wr => ∃ (k:Nat) (O:ByteArray),2 <= k /\ k <= n /\ i = .int .i64 (k:Int) /\ s = .string O /\ O.size <= 200 /\ Hid (O = bs (encU xs (k - 2))) /\ Hid (Since w wr)) (fun _ i _ => n - (intOf i).toNat)
 case atStart => exact ⟨2,S,by omega,by omega,rfl,rfl,hS9,HS,H2⟩
 case round =>
   obtain ⟨k,O,hk2,hk,rfl,rfl,hO9,HO,HSW⟩:=hrel
   by_cases hlt2:k < n
   · have hck2:=(HSW.out.below.cell (p:=⟨b,o + k,none⟩) hlt).trans (HC.out k hlt2);have hb:=ok_at xs HK.out k (by have:=HN.out; omega);have hU:=encU_succ xs (k - 2) (by have:=HN.out; omega);have hl9:=encU_len xs HK.out (k - 2 + 1);rw [show k - 2 + 2 = k from by omega] at hU;rw [show k - 2 + 1 = k + 1 - 2 from by omega] at hU hl9;obtain ⟨x,hx⟩:∃ x,x = xs.getD k 0:=⟨_,rfl⟩
     rw [<- hx] at hck2 hb hU;obtain ⟨P,hP⟩:∃ P,P = bs (num x.toNat):=⟨_,rfl⟩
     have c3:=rnumber_int x (by omega) (by omega) P hP;have hU2:O ++ P = bs (encU xs (k + 1 - 2)):=by
       apply ba_ext
       rw [app_list,HO.out,hP,list_bs,list_bs,list_bs,hU]
     have hP9:O.size + P.size <= 200:=by
       have h9:(O ++ P).size <= 200:=by rw [hU2,size_bs]; exact hl9
       rwa [ByteArray.size_append] at h9
     have hsz:¬ 9223372036854775807 < O.size + P.size:=by omega
     have hO2s:(O ++ P).size <= 200:=by rw [ByteArray.size_append]; exact hP9
     obtain ⟨O2,hO2⟩:∃ O2,O ++ P = O2:=⟨_,rfl⟩
     rw [hO2] at hU2 hO2s;clear hx hU hl9 hP hb;have HU2:=lH hU2;clear hU2;go_wp2_with fail;refine c3.calls HSW.out ?_;intro w3 h3;have H3:=lH h3;clear h3;go_wp2_with fail;go_roundw
     case rel => exact ⟨k + 1,O2,by omega,by omega,by go_num,rfl,hO2s,HU2,H3⟩
     case measure => simp [intOf]; omega
   · obtain rfl:X = O:=by rw [HX.out,HO.out,show k - 2 = m from by have:=HM.out; omega]
     go_wp2_with fail;go_ret2;exact ⟨rfl,HSW.out⟩
end Oid
def MkI (f:Nat) (args:Array Value) (xs:List Int) (b:Bool):Prop:=∀ w,Calls Tryz.prog f args w fun e w' => ∃ v,e = .returned (.tuple #[v,.bool b]) /\ IntsS w' v xs /\ Below w.heap.size w w'
theorem MkI.calls0 {f:Nat} {args:Array Value} {xs:List Int} {b:Bool} (h:MkI f args xs b) {w:World} {R:Ending -> World -> Prop} (k:∀ v w',IntsS w' v xs -> Since w w' -> R (.returned (.tuple #[v,.bool b])) w'):Calls Tryz.prog f args w R :=
 (h w).mono fun _ _ ⟨v,he,ho,hb⟩ => by subst he; exact k v _ ho hb
theorem elemI:ElemIs 44 3 (.int .i64 0) 1 8:=⟨Tryz.underlying44,by kernel_rfl,rfl,by decide⟩
def IntsO (w0 w:World) (v:Value) (n:Nat) (xs:List Int):Prop:=w.ownsRow w0.heap.size 3 1 v n (xs.map (Value.int .i64))
theorem IntsO.read {w0 w:World} {v:Value} {n:Nat} {xs:List Int} (h:IntsO w0 w v n xs):IntsS w v xs:=by
 have hn:xs.length = n:=by have:=h.1; simpa using this
 unfold IntsS;rw [hn];exact SlR.own h
theorem IntsO.len {w0 w:World} {v:Value} {n:Nat} {xs:List Int} (h:IntsO w0 w v n xs):xs.length = n:=by have:=h.1; simpa using this
theorem IntsO.slice {w0 w:World} {v:Value} {n:Nat} {xs:List Int} (h:IntsO w0 w v n xs):∃ A c,v = .slice A n c:=by
 rcases h.2 with ⟨rfl,rfl⟩ | ⟨g,cap,cur,rfl,_⟩
 · exact ⟨_,_,rfl⟩
 · exact ⟨_,_,rfl⟩
namespace Oid
theorem rd_no (c:List UInt8) (h:rd c 0 [] = none):decL c = [] /\ decB c = false:=by
 have hb:decB c = false:=by
   cases hd:decB c with
   | false => rfl
   | true =>
     obtain ⟨h1,h2⟩:=(dec_iff c (decL c)).1 ⟨hd,rfl⟩;have:=rd_enc _ h1;rw [h2,h] at this;cases this
 exact ⟨dec_false c hb,hb⟩
theorem rd_some (c:List UInt8) (l:List Int) (h:rd c 0 [] = some l) (hn:¬ (Ok l /\ enc l = c)):decL c = [] /\ decB c = false:=by
 have hb:decB c = false:=by
   cases hd:decB c with
   | false => rfl
   | true =>
     obtain ⟨h1,h2⟩:=(dec_iff c (decL c)).1 ⟨hd,rfl⟩;have:=rd_enc _ h1;rw [h2,h] at this;have:=Option.some.inj this;subst this;exact absurd ⟨h1,h2⟩ hn
 exact ⟨dec_false c hb,hb⟩
theorem drop_at (c:ByteArray) (k:Nat) (h:k < c.size):c.data.toList.drop k = c[k] :: c.data.toList.drop (k + 1):=by
 rw [List.drop_eq_getElem_cons (by simpa using h)]; rfl
theorem drop_end (c:ByteArray) (k:Nat) (h:c.size <= k):c.data.toList.drop k = []:=List.drop_eq_nil_of_le (by simpa using h)
set_option maxHeartbeats 4000000 in
theorem rdecode_mk (c:ByteArray) (hm:c.size <= 1000000) (xs:List Int) (q:Bool) (hx:xs = decL c.data.toList) (hq:q = decB c.data.toList):MkI 64 #[.string c] xs q:=by
 intro w;have H0:=lH (Since.refl w);have HXS:=lH hx;have HQ:=lH hq;obtain ⟨R,hR⟩:∃ R,R = rd c.data.toList 0 []:=⟨_,rfl⟩
 have HR:=lH hR;clear hx hq hR
 go_enter Tryz.func64,Tryz.ntmps64
 go_wp2_with fail;go_loopw [4,5,6] (fun v nn i wr => ∃ (k n N:Nat) (l:List Int),k <= c.size /\ n <= 4294967296 /\ i = .int .i64 (k:Int) /\ nn = .int .i64 (n:Int) /\ N <= 21 /\ Hid (IntsO w wr v N l) /\ Hid (R = rd (c.data.toList.drop k) n l) /\ Hid (Since w wr)) (fun _ _ i _ => c.size - (intOf i).toNat)
 case atStart => exact ⟨0,0,0,[],by omega,by omega,rfl,rfl,by omega,lH (World.ownsRow_nil _ _ _ _),HR,H0⟩
 case round =>
   obtain ⟨k,n,N,l,hk,hn,rfl,rfl,hN,HO,HRR,HSW⟩:=hrel;have hNl:=HO.out.len
   by_cases hgo:k < c.size /\ N < 21
   · obtain ⟨hlt,hN2⟩:=hgo;obtain ⟨A,cap,hsl⟩:=HO.out.slice;subst hsl;have hrd:=HRR.out;rw [drop_at c k hlt] at hrd;simp only [rd] at hrd;rw [if_neg (by omega)] at hrd;have hd2:decide ((N:Int) < 21) = true:=decide_eq_true (by omega);have hc9:=c[k].toNat_lt;obtain ⟨m,hmm⟩:∃ m,m = 128 * n + c[k].toNat % 128:=⟨_,rfl⟩
     rw [<- hmm] at hrd;have em:128 * (n:Int) + (c[k].toNat:Int) % 128 = (m:Int):=by omega
     by_cases g1:4294967296 < m
     · have g1d:decide ((4294967296:Int) < 128 * (n:Int) + (c[k].toNat:Int) % 128) = true:=decide_eq_true (by omega);rw [if_pos g1] at hrd;obtain ⟨z1,z2⟩:=rd_no _ (HR.out.symm.trans hrd);obtain rfl:xs = []:=by rw [HXS.out,z1]
       obtain rfl:q = false:=by rw [HQ.out,z2]
       clear hrd z1 z2 hmm em g1 hNl;go_wp2_with fail;go_ret2;exact ⟨_,rfl,IntsS.nil _,HSW.out⟩
     · have g1d:decide ((4294967296:Int) < 128 * (n:Int) + (c[k].toNat:Int) % 128) = false:=decide_eq_false (by omega);rw [if_neg g1] at hrd
       by_cases g2:127 < c[k].toNat
       · have g2d:decide ((127:Int) < (c[k].toNat:Int)) = true:=decide_eq_true (by omega);rw [if_pos g2] at hrd;have hm9:m <= 4294967296:=by omega
         have EM:=lH em;have Hrd:=lH hrd;clear hrd;clear hmm em g1 g2 hNl;go_wp2_with fail;go_roundw
         case rel => exact ⟨k + 1,m,N,l,by omega,hm9,by go_num,congrArg _ EM.out,hN,HO,Hrd,HSW⟩
         case measure => simp [intOf]; omega
       · have g2d:decide ((127:Int) < (c[k].toNat:Int)) = false:=decide_eq_false (by omega);rw [if_neg g2] at hrd;have hm9:m <= 4294967296:=by omega
         have EM:=lH em
         by_cases h0:N = 0
         · subst h0;have hl0:l = []:=List.eq_nil_of_length_eq_zero hNl;subst hl0;rw [push,if_pos rfl] at hrd;obtain ⟨f,hf⟩:∃ f,f = min (m / 40) 2:=⟨_,rfl⟩
           rw [<- hf] at hrd;have Hrd:=lH hrd;clear hrd;have hf2:f <= 2:=by omega
           by_cases g3:2 < m / 40
           · have hf3:f = 2:=by omega
             subst hf3;have g3d:decide ((2:Int) < (128 * (n:Int) + (c[k].toNat:Int) % 128) / 40) = true:=decide_eq_true (by omega);clear hmm em g1 g2 hf;go_wp2_with (at_builtin; refine app_one elemI rfl _ _ (by rfl) w wr _ 0 [] (by rfl) HO.out HSW.out _ (by rfl) rfl (by omega) (by decide) ?_)
             intro v2 w2 hO2 hS2;have HO2:=lH hO2;clear hO2;have HS2:=lH hS2;clear hS2;go_wp2_with (at_builtin; refine app_one elemI rfl _ _ (by rfl) w w2 _ 1 _ (by rfl) HO2.out HS2.out _ (by rfl) rfl (by omega) (by decide) ?_)
             intro v3 w3 hO3 hS3;have HO3:=lH hO3;clear hO3;have HS3:=lH hS3;clear hS3;go_wp2_with fail;go_roundw
             case rel => exact ⟨k + 1,0,2,_,by omega,by omega,by go_num,rfl,by omega,lH (by have h9:=HO3.out; rw [EM.out] at h9; have h8:((m - 40 * 2:Nat):Int) = (m:Int) - 80:=(by omega); unfold IntsO; simp only [List.map_cons,List.map_nil]; rw [h8]; exact h9),Hrd,HS3⟩
             case measure => simp [intOf]; omega
           · have hf3:f = m / 40:=by omega
             have g3d:decide ((2:Int) < (128 * (n:Int) + (c[k].toNat:Int) % 128) / 40) = false:=decide_eq_false (by omega);have EF:Hid ((m:Int) / 40 = (f:Int)):=lH (by omega);have hx40:(128 * (n:Int) + (c[k].toNat:Int) % 128) / 40 <= 2:=by omega
             have hx41:0 <= (128 * (n:Int) + (c[k].toNat:Int) % 128) / 40:=by omega
             clear hmm em g1 g2 hf;go_wp2_with (at_builtin; refine app_one elemI rfl _ _ (by rfl) w wr _ 0 [] (by rfl) HO.out HSW.out _ (by rfl) rfl (by omega) (by decide) ?_)
             intro v2 w2 hO2 hS2;have HO2:=lH hO2;clear hO2;have HS2:=lH hS2;clear hS2;go_wp2_with (at_builtin; refine app_one elemI rfl _ _ (by rfl) w w2 _ 1 _ (by rfl) HO2.out HS2.out _ (by rfl) rfl (by omega) (by decide) ?_)
             intro v3 w3 hO3 hS3;have HO3:=lH hO3;clear hO3;have HS3:=lH hS3;clear hS3;go_wp2_with fail;go_roundw
             case rel => exact ⟨k + 1,0,2,_,by omega,by omega,by go_num,rfl,by omega,lH (by have h9:=HO3.out; rw [EM.out,EF.out] at h9; have h8:((m - 40 * f:Nat):Int) = (m:Int) - 40 * (f:Int):=(by have:=EF.out; omega); unfold IntsO; simp only [List.map_cons,List.map_nil]; rw [h8]; exact h9),Hrd,HS3⟩
             case measure => simp [intOf]; omega
         · have hl0:l ≠ []:=fun h => h0 (by rw [<- hNl,h]; rfl)
           rw [push_some _ _ hl0] at hrd;have t0:((N:Int) == 0) = false:=by rw [beq_eq_false_iff_ne]; omega
           have Hrd:=lH hrd;clear hrd;clear hmm em g1 g2 hl0 hNl;go_wp2_with (at_builtin; refine app_one elemI rfl _ _ (by rfl) w wr _ N _ (by rfl) HO.out HSW.out _ (by rfl) rfl (by omega) (by decide) ?_)
           intro v2 w2 hO2 hS2;have HO2:=lH hO2;clear hO2;have HS2:=lH hS2;clear hS2;go_wp2_with fail;go_roundw
           case rel => exact ⟨k + 1,0,N + 1,_,by omega,by omega,by go_num,rfl,by omega,lH (by have h9:=HO2.out; rw [EM.out] at h9; unfold IntsO; rw [List.map_append]; exact h9),Hrd,HS2⟩
           case measure => simp [intOf]; omega
   · have hRl:R = some l:=by
       rw [HRR.out]
       by_cases hlt:k < c.size
       · rw [drop_at c k hlt];simp only [rd];rw [if_pos (by omega)]
       · rw [drop_end c k (by omega)];rfl
     have hall:=HR.out.symm.trans hRl;have hRd:=HO.out.read;obtain ⟨A,cap,hsl⟩:=HO.out.slice;subst hsl;have hloop:(k < c.size -> decide ((N:Int) < 21) = false):=fun h => decide_eq_false (by omega)
     by_cases hok:Ok l
     · obtain ⟨E,hE⟩:∃ E,E = bs (enc l):=⟨_,rfl⟩
       have c1:=rencode_yes wr _ l hRd hok E hE
       by_cases hEc:E = c
       · have hel:enc l = c.data.toList:=by rw [<- hEc,hE,list_bs]
         obtain ⟨z1,z2⟩:=(dec_iff c.data.toList l).2 ⟨hok,hel⟩;obtain rfl:xs = l:=by rw [HXS.out,z2]
         obtain rfl:q = true:=by rw [HQ.out,z1]
         have hb:=str_eq_t hEc;have hb2:=str_eq_f hEc;have HRd:=lH hRd;clear hel z1 z2 hall hRl hok hEc hE hRd hNl
         by_cases hlt:k < c.size
         · have hd2:=hloop hlt;clear hloop hgo;go_wp2_with fail;refine c1.mono ?_;rintro e w2 ⟨rfl,h2⟩;have H2:=lH h2;clear h2;go_wp2_with fail;go_ret2;exact ⟨_,rfl,HRd.out.since H2.out,HSW.out.step H2.out⟩
         · clear hloop hgo;go_wp2_with fail;refine c1.mono ?_;rintro e w2 ⟨rfl,h2⟩;have H2:=lH h2;clear h2;go_wp2_with fail;go_ret2;exact ⟨_,rfl,HRd.out.since H2.out,HSW.out.step H2.out⟩
       · obtain ⟨z1,z2⟩:=rd_some _ l hall (fun h => hEc (by rw [hE,h.2]; exact bs_list c));obtain rfl:xs = []:=by rw [HXS.out,z1]
         obtain rfl:q = false:=by rw [HQ.out,z2]
         have hb:=str_ne_f hEc;have hb2:=str_ne_t hEc;clear z1 z2 hall hRl hok hEc hE hRd hNl
         by_cases hlt:k < c.size
         · have hd2:=hloop hlt;clear hloop hgo;go_wp2_with fail;refine c1.mono ?_;rintro e w2 ⟨rfl,h2⟩;have H2:=lH h2;clear h2;go_wp2_with fail;go_ret2;exact ⟨_,rfl,IntsS.nil _,HSW.out.step H2.out⟩
         · clear hloop hgo;go_wp2_with fail;refine c1.mono ?_;rintro e w2 ⟨rfl,h2⟩;have H2:=lH h2;clear h2;go_wp2_with fail;go_ret2;exact ⟨_,rfl,IntsS.nil _,HSW.out.step H2.out⟩
     · obtain ⟨z1,z2⟩:=rd_some _ l hall (fun h => hok h.1);obtain rfl:xs = []:=by rw [HXS.out,z1]
       obtain rfl:q = false:=by rw [HQ.out,z2]
       have c1:=rencode_no wr _ l hRd hok;clear z1 z2 hall hRl hok hRd hNl
       by_cases hlt:k < c.size
       · have hd2:=hloop hlt;clear hloop hgo;go_wp2_with fail;refine c1.mono ?_;rintro e w2 ⟨rfl,rfl⟩;go_wp2_with fail;go_ret2;exact ⟨_,rfl,IntsS.nil _,HSW.out⟩
       · clear hloop hgo;go_wp2_with fail;refine c1.mono ?_;rintro e w2 ⟨rfl,rfl⟩;go_wp2_with fail;go_ret2;exact ⟨_,rfl,IntsS.nil _,HSW.out⟩
end Oid
namespace Oid
open Dig
def unB (l:List UInt8):Bool:=decide (numS (unV l) = l)
def unN (l:List UInt8):Int:=if unB l then unV l else 0
def spl (cur:List UInt8):List UInt8 -> List (List UInt8)
 | [] => [cur]
 | c :: cs => if c = 46 then cur :: spl [] cs else spl (cur ++ [c]) cs
def pp:List (List UInt8) -> List Int -> Option (List Int)
 | [],l => some l
 | p :: ps,l => if unB p = false ∨ l.length = 20 then none else pp ps (l ++ [unN p])
def parB (t:List UInt8):Bool:=((pp (spl [] t) []).filter fun l => decide (Ok l)).isSome
def join:List (List UInt8) -> List UInt8
 | [] => []
 | p :: ps => p ++ ps.flatMap (46 :: ·)
end Oid
end Go.Proofs.YtpanhhjkecebkaaGreat
