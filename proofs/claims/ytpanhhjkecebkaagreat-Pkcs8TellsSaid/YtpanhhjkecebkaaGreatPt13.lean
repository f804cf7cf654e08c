import Derived.Test.YtpanhhjkecebkaaGreatPt10
import Derived.BigQuiet
set_option maxRecDepth 100000
namespace Go.Proofs.YtpanhhjkecebkaaGreat
open Go.RowKit
namespace Oid
def mst (a:Int) (j:Nat):Int:=if j = 0 then (if a = 2 then 2147483567 else 39) else 2147483647
theorem ok_iff (xs:List Int):Ok xs ↔ 2 <= xs.length /\ xs.length <= 20 /\ 0 <= xs.getD 0 0 /\ xs.getD 0 0 <= 2 /\ ∀ j,j + 1 < xs.length -> 0 <= xs.getD (j + 1) 0 /\ xs.getD (j + 1) 0 <= mst (xs.getD 0 0) j:=by
 match xs with
 | [] => simp [Ok]
 | [a] => simp [Ok]
 | a :: b :: r =>
   simp only [Ok,List.length_cons,List.getD_cons_zero,List.getD_cons_succ]
   constructor
   · rintro ⟨h1,h2,h3,h4,h5,h6⟩;refine ⟨by omega,by omega,h2,h3,fun j hj => ?_⟩;cases j with
     | zero =>
       simp only [mst,List.getD_cons_zero,if_true];refine ⟨h4, ?_⟩
       split <;> omega
     | succ j =>
       simp only [mst,List.getD_cons_succ,Nat.add_eq_zero_iff,Nat.succ_ne_self,and_false,if_false];have hj2:j < r.length:=by omega
       have:=h6 (r.getD j 0) (by simp [List.getD,hj2]);exact this
   · rintro ⟨h1,h2,h3,h4,h5⟩;have h0:=h5 0 (by omega);simp only [mst,List.getD_cons_zero,if_true] at h0;refine ⟨by omega,h3,h4,h0.1, ?_,fun x hx => ?_⟩
     · obtain ⟨_,h0⟩:=h0
       split at h0 <;> omega
     · obtain ⟨i,hi,rfl⟩:=List.getElem_of_mem hx;have:=h5 (i + 1) (by omega);simp only [mst,List.getD_cons_succ,Nat.add_eq_zero_iff,Nat.succ_ne_self,and_false,if_false] at this
       simpa [List.getD,hi] using this
theorem ok_lt (xs:List Int) (h:xs.length < 2 ∨ 20 < xs.length ∨ xs.getD 0 0 < 0 ∨ 2 < xs.getD 0 0):decide (Ok xs) = false:=by
 rw [decide_eq_false_iff_not,ok_iff];omega
theorem ok_bad (xs:List Int) (j:Nat) (hj:j + 1 < xs.length) (h:¬ (0 <= xs.getD (j + 1) 0 /\ xs.getD (j + 1) 0 <= mst (xs.getD 0 0) j)):decide (Ok xs) = false:=by
 rw [decide_eq_false_iff_not,ok_iff];exact fun h2 => h (h2.2.2.2.2 j hj)
theorem ok_all (xs:List Int) (h1:2 <= xs.length) (h2:xs.length <= 20) (h3:0 <= xs.getD 0 0) (h4:xs.getD 0 0 <= 2) (h:∀ j,j + 1 < xs.length -> 0 <= xs.getD (j + 1) 0 /\ xs.getD (j + 1) 0 <= mst (xs.getD 0 0) j):decide (Ok xs) = true:=by
 rw [decide_eq_true_iff,ok_iff];exact ⟨h1,h2,h3,h4,h⟩
theorem size_i (w:World):(Go.sizeOf 3).run Tryz.prog w = .ok 1 w:=by kernel_rfl
set_option maxHeartbeats 2000000 in
theorem right_any (w:World) (v:Value) (xs:List Int) (hv:IntsS w v xs) (q:Bool) (hq:q = decide (Ok xs)) :
   Calls Tryz.prog 94 #[v] w fun e w' => e = .returned (.bool q) /\ w = w':=by
 obtain ⟨A,c,hvs,hc1,hc2⟩:=hv.slice;have hle:=hv.le;obtain ⟨n,hn⟩:∃ n,xs.length = n:=⟨_,rfl⟩
 by_cases h2:n < 2
 · obtain rfl:q = false:=by rw [hq]; exact ok_lt xs (by omega)
   have t1:decide ((n:Int) < 2) = true:=decide_eq_true (by omega);rw [hvs,hn];rw [hn] at hle;clear hq hv hvs hn h2 hc1 hc2
   go_enter Tryz.func94,Tryz.ntmps94
   go_wp2_with fail;go_ret;exact ⟨rfl,rfl⟩
 · have t1:decide ((n:Int) < 2) = false:=decide_eq_false (by omega)
   by_cases h20:20 < n
   · obtain rfl:q = false:=by rw [hq]; exact ok_lt xs (by omega)
     have t2:decide ((20:Int) < (n:Int)) = true:=decide_eq_true (by omega);rw [hvs,hn];rw [hn] at hle;clear hq hv hvs hn h2 h20 hc1 hc2
     go_enter Tryz.func94,Tryz.ntmps94
     go_wp2_with fail;go_ret;exact ⟨rfl,rfl⟩
   · have t2:decide ((20:Int) < (n:Int)) = false:=decide_eq_false (by omega);obtain ⟨b,o,c,rfl,hc1,hc2,hlt,hcell⟩:=hv.form (by omega);have k0:=hcell 0 (by omega);rw [Nat.add_zero] at k0;obtain ⟨x0,hx0⟩:∃ x,x = xs.getD 0 0:=⟨_,rfl⟩
     rw [<- hx0] at k0;rw [hn] at hc1 hle hv ⊢;have i9:0 < n:=by omega
     by_cases g1:x0 < 0
     · obtain rfl:q = false:=by rw [hq]; exact ok_lt xs (by omega)
       have t3:decide (x0 < 0) = true:=decide_eq_true g1;clear hq hv hn hx0 hcell g1 h2 h20 hc1 hc2
       go_enter Tryz.func94,Tryz.ntmps94
       go_wp2_with fail;go_ret;exact ⟨rfl,rfl⟩
     · have t3:decide (x0 < 0) = false:=decide_eq_false g1
       by_cases g2:2 < x0
       · obtain rfl:q = false:=by rw [hq]; exact ok_lt xs (by omega)
         have t4:decide (2 < x0) = true:=decide_eq_true g2;clear hq hv hn hx0 hcell g1 g2 h2 h20 hc1 hc2
         go_enter Tryz.func94,Tryz.ntmps94
         go_wp2_with fail;go_ret;exact ⟨rfl,rfl⟩
       · have t4:decide (2 < x0) = false:=decide_eq_false g2;have i0:0 <= x0:=by omega
         have i2:x0 <= 2:=by omega
         obtain ⟨m,hm⟩:∃ m,n = 1 + m:=⟨n - 1,by omega⟩
         obtain ⟨d,hd⟩:∃ d,c = 1 + d:=⟨c - 1,by omega⟩
         have hv2:SlR w 1 (.slice (some ⟨b,o,none⟩) n c) n (xs.map (Value.int .i64)):=by rw [<- hn] at hv ⊢; exact hv
         obtain ⟨A',hT,hrun⟩:=hv2.tail Tryz.underlying44 size_i 1 m d hm hd;obtain ⟨b',o',c',hA',_,_,_,hc'⟩:=hT.form (by omega);obtain ⟨rfl,-,-⟩:=Value.slice.inj hA';have HC:Hid (∀ k,k < m -> w.cell? ⟨b',o' + k,none⟩ = some (.int .i64 (xs.getD (k + 1) 0))):=lH (fun k hk => hc' k _ (by
           rw [List.getElem?_drop,List.getElem?_map,Nat.add_comm 1 k];simp [List.getD,show k + 1 < xs.length from by omega]))
         have HL:Hid (xs.length = 1 + m):=lH (by omega);have HQ:=lH hq;have HX0:=lH hx0;have hm9:m <= 19:=by omega
         have hm1:1 <= m:=by omega
         have hrun0:∀ W,(Instr.slice 44 (.slice (some ⟨b,o,none⟩) n c) (some (.int .i64 1)) none none).run Tryz.prog W = .ok (.slice (some ⟨b',o',none⟩) m d) W:=hrun;clear hq hv hv2 hT hrun hn hx0 hcell g1 g2 h2 h20 hc1 hc2 hA' hc' hm hd
         by_cases g3:x0 = 2
         · have t5:(x0 == 2) = true:=by rw [beq_iff_eq]; exact g3
           have HM0:Hid ((2147483567:Int) = mst x0 0):=lH (by unfold mst; rw [if_pos rfl,if_pos g3]);clear g3
           go_enter Tryz.func94,Tryz.ntmps94
           go_wp2_with fail
           go_loop [3,33] (fun mo i => ∃ (k:Nat) (M:Int),k <= m /\ i = .int .i64 (k:Int) /\ mo = .int .i64 M /\ Hid (M = mst x0 k) /\ Hid (∀ j,j < k -> 0 <= xs.getD (j + 1) 0 /\ xs.getD (j + 1) 0 <= mst x0 j)) (fun _ i => m - (intOf i).toNat)
           case atStart => exact ⟨0,2147483567,by omega,rfl,rfl,HM0,lH (fun j hj => by omega)⟩
           case round =>
             obtain ⟨k,M,hk,rfl,rfl,HM,HA⟩:=hrel
             by_cases hlt:k < m
             · have hck:=HC.out k hlt;obtain ⟨x,hx⟩:∃ x,x = xs.getD (k + 1) 0:=⟨_,rfl⟩
               rw [<- hx] at hck;have hd1:decide (k < m) = true:=decide_eq_true (by omega);have Hx:=lH hx;clear hx
               by_cases g1:x < 0
               · have g1d:decide (x < 0) = true:=decide_eq_true g1;obtain rfl:q = false:=by
                   rw [HQ.out];exact ok_bad xs k (by have:=HL.out; omega) (by rw [<- Hx.out,<- HX0.out]; omega)
                 clear g1;go_wp2_with fail;go_ret;exact ⟨rfl,rfl⟩
               · have g1d:decide (x < 0) = false:=decide_eq_false g1
                 by_cases g2:M < x
                 · have g2d:decide (M < x) = true:=decide_eq_true g2;obtain rfl:q = false:=by
                     rw [HQ.out];exact ok_bad xs k (by have:=HL.out; omega) (by rw [<- Hx.out,<- HX0.out,<- HM.out]; omega)
                   clear g1 g2;go_wp2_with fail;go_ret;exact ⟨rfl,rfl⟩
                 · have g2d:decide (M < x) = false:=decide_eq_false g2;have hA2:∀ j,j < k + 1 -> 0 <= xs.getD (j + 1) 0 /\ xs.getD (j + 1) 0 <= mst x0 j:=fun j hj => by
                     by_cases h9:j = k
                     · rw [h9,<- Hx.out,<- HM.out]; omega
                     · exact HA.out j (by omega)
                   have hM2:(2147483647:Int) = mst x0 (k + 1):=by unfold mst; rw [if_neg (by omega)]
                   have HA2:=lH hA2;clear hA2;have HM2:=lH hM2;clear hM2;clear g1 g2;go_wp2_with fail
                   go_round
                   case rel => exact ⟨k + 1,_,by omega,by go_num,rfl,HM2,HA2⟩
                   case measure => simp [intOf]; omega
             · have hd1:decide (k < m) = false:=decide_eq_false (by omega);obtain rfl:q = true:=by
                 rw [HQ.out];refine ok_all xs (by have:=HL.out; omega) (by have:=HL.out; omega) (by rw [<- HX0.out]; exact i0) (by rw [<- HX0.out]; exact i2) fun j hj => ?_
                 rw [<- HX0.out];exact HA.out j (by have:=HL.out; omega)
               go_wp2_with fail;go_ret;exact ⟨rfl,rfl⟩
         · have t5:(x0 == 2) = false:=by rw [beq_eq_false_iff_ne]; exact g3
           have HM0:Hid ((39:Int) = mst x0 0):=lH (by unfold mst; rw [if_pos rfl,if_neg g3]);clear g3
           go_enter Tryz.func94,Tryz.ntmps94
           go_wp2_with fail
           go_loop [3,33] (fun mo i => ∃ (k:Nat) (M:Int),k <= m /\ i = .int .i64 (k:Int) /\ mo = .int .i64 M /\ Hid (M = mst x0 k) /\ Hid (∀ j,j < k -> 0 <= xs.getD (j + 1) 0 /\ xs.getD (j + 1) 0 <= mst x0 j)) (fun _ i => m - (intOf i).toNat)
           case atStart => exact ⟨0,39,by omega,rfl,rfl,HM0,lH (fun j hj => by omega)⟩
           case round =>
             obtain ⟨k,M,hk,rfl,rfl,HM,HA⟩:=hrel
             by_cases hlt:k < m
             · have hck:=HC.out k hlt;obtain ⟨x,hx⟩:∃ x,x = xs.getD (k + 1) 0:=⟨_,rfl⟩
               rw [<- hx] at hck;have hd1:decide (k < m) = true:=decide_eq_true (by omega);have Hx:=lH hx;clear hx
               by_cases g1:x < 0
               · have g1d:decide (x < 0) = true:=decide_eq_true g1;obtain rfl:q = false:=by
                   rw [HQ.out];exact ok_bad xs k (by have:=HL.out; omega) (by rw [<- Hx.out,<- HX0.out]; omega)
                 clear g1;go_wp2_with fail;go_ret;exact ⟨rfl,rfl⟩
               · have g1d:decide (x < 0) = false:=decide_eq_false g1
                 by_cases g2:M < x
                 · have g2d:decide (M < x) = true:=decide_eq_true g2;obtain rfl:q = false:=by
                     rw [HQ.out];exact ok_bad xs k (by have:=HL.out; omega) (by rw [<- Hx.out,<- HX0.out,<- HM.out]; omega)
                   clear g1 g2;go_wp2_with fail;go_ret;exact ⟨rfl,rfl⟩
                 · have g2d:decide (M < x) = false:=decide_eq_false g2;have hA2:∀ j,j < k + 1 -> 0 <= xs.getD (j + 1) 0 /\ xs.getD (j + 1) 0 <= mst x0 j:=fun j hj => by
                     by_cases h9:j = k
                     · rw [h9,<- Hx.out,<- HM.out]; omega
                     · exact HA.out j (by omega)
                   have hM2:(2147483647:Int) = mst x0 (k + 1):=by unfold mst; rw [if_neg (by omega)]
                   have HA2:=lH hA2;clear hA2;have HM2:=lH hM2;clear hM2;clear g1 g2;go_wp2_with fail
                   go_round
                   case rel => exact ⟨k + 1,_,by omega,by go_num,rfl,HM2,HA2⟩
                   case measure => simp [intOf]; omega
             · have hd1:decide (k < m) = false:=decide_eq_false (by omega);obtain rfl:q = true:=by
                 rw [HQ.out];refine ok_all xs (by have:=HL.out; omega) (by have:=HL.out; omega) (by rw [<- HX0.out]; exact i0) (by rw [<- HX0.out]; exact i2) fun j hj => ?_
                 rw [<- HX0.out];exact HA.out j (by have:=HL.out; omega)
               go_wp2_with fail;go_ret;exact ⟨rfl,rfl⟩
end Oid
theorem since_drewNi {W0 w:World} (h:Since W0 w) (n:Nat):Since W0 (w.drewN n):=h.step ⟨rfl,rfl,rfl,Nat.le_refl _,fun _ _ => rfl⟩
theorem take_eq_snoci (ss tt:List Int) (k:Nat) (h1:k < ss.length) (h2:k < tt.length) (h:ss.take k = tt.take k) (he:ss.getD k 0 = tt.getD k 0):ss.take (k + 1) = tt.take (k + 1):=by
 rw [List.take_succ_eq_append_getElem h1,List.take_succ_eq_append_getElem h2,h];simp [List.getD,List.getElem?_eq_getElem h1,List.getElem?_eq_getElem h2] at he;rw [he]
end Go.Proofs.YtpanhhjkecebkaaGreat
