import Derived.Test.YtpanhhjkecebkaaGreatPt20
set_option maxRecDepth 100000
namespace Go.Proofs.YtpanhhjkecebkaaGreat
open Go.RowKit
namespace RefUtf
open Utf
theorem at_ent (s:ByteArray) (k:Nat) (h:k < s.size):s[k].toNat = ent s.data.toList k:=by
 unfold ent;have h2:k < s.data.toList.length:=h;rw [List.getD_eq_getElem?_getD,List.getElem?_eq_getElem h2];rfl
theorem fold_lt (l:List UInt8) (n:Nat) (hn:n < 32) (k:Nat) (hk:k <= 3):fold l n k < 16777216:=by
 have h1:=Utf.ent_lt l 1; have h2:=Utf.ent_lt l 2; have h3:=Utf.ent_lt l 3
 match k,hk with
 | 0,_ => show n < _; omega
 | 1,_ => rw [fold1]; omega
 | 2,_ => rw [fold2]; omega
 | 3,_ => rw [fold3]; omega
set_option maxHeartbeats 2000000 in
theorem point_1 (s:ByteArray) (h0:0 < s.size) (hm:s.size <= 1000000) (b:Nat) (hb:b = s[0].toNat) (h1:192 <= b) (h2:b < 224) (x:Nat) (hx:x = ptG s.data.toList (b - 192) 1 128):Ret 184 #[.string s] (.int .i64 (x:Int)):=by
 intro w;obtain ⟨l,hl⟩:∃ l,l = s.data.toList:=⟨_,rfl⟩
 rw [<- hl] at hx;have hlen:l.length = s.size:=by rw [hl]; rfl
 obtain ⟨n0,hn0⟩:∃ n0,n0 = b - 192:=⟨_,rfl⟩
 rw [<- hn0] at hx;have hi:((b:Nat):Int) - 192 = (n0:Int):=by omega
 have hn9:n0 < 32:=by omega
 (have t1:decide ((b:Int) < 128) = false:=decide_eq_false (by omega); have t2:decide ((192:Int) <= (b:Int)) = true:=decide_eq_true (by omega); have t3:decide ((b:Int) < 224) = true:=decide_eq_true (by omega); have t4:decide ((224:Int) <= (b:Int)) = false:=decide_eq_false (by omega); have t5:decide ((b:Int) < 240) = true:=decide_eq_true (by omega); have t6:decide ((240:Int) <= (b:Int)) = false:=decide_eq_false (by omega); have t7:decide ((b:Int) < 248) = true:=decide_eq_true (by omega))
 rw [hb] at hi t1 t2 t3 t4 t5 t6 t7;have HB:=lH hb;have HI:=lH hn0;clear hb hn0 h1 h2;have HX:=lH hx;unfold ptG at hx
 by_cases hs:l.length <= 1
 · rw [if_pos hs] at hx;subst hx;have t8:decide ((s.size:Int) <= 1) = true:=decide_eq_true (by omega);clear hs hl
   go_enter Tryz.func184,Tryz.ntmps184
   go_wp2_with fail;go_ret;exact ⟨rfl,rfl⟩
 · rw [if_neg hs] at hx;have t8:decide ((s.size:Int) <= 1) = false:=decide_eq_false (by omega);have HL:=lH hl;have HX2:=lH hx;clear hx hl
   go_enter Tryz.func184,Tryz.ntmps184
   go_wp2_with fail
   go_loop [4,7] (fun n i => ∃ k:Nat,k <= 1 /\ i = .int .i64 ((k + 1:Nat):Int) /\ n = .int .i64 ((fold l n0 k:Nat):Int) /\ Hid (∀ i,i < k -> cont (ent l (i + 1)))) (fun _ i => 5 - (intOf i).toNat)
   case atStart => exact ⟨0,by omega,rfl,rfl,lH (fun i hi => absurd hi (Nat.not_lt_zero i))⟩
   case round =>
     clear t1 t2 t3 t4 t5 t6 t7 t8;obtain ⟨k,hk,rfl,rfl,HC⟩:=hrel;have hF9:=fold_lt l n0 hn9 k (by omega)
     by_cases hlt:k < 1
     · obtain ⟨F,hF⟩:∃ F,F = fold l n0 k:=⟨_,rfl⟩
       rw [<- hF] at hF9 ⊢;have hk2:k + 1 < s.size:=by omega
       have hce:s[k + 1].toNat = ent l (k + 1):=by rw [HL.out]; exact at_ent s (k + 1) hk2
       have hc9:=s[k + 1].toNat_lt
       by_cases hc:cont (ent l (k + 1))
       · have HC2:Hid (∀ i,i < k + 1 -> cont (ent l (i + 1))):=lH (fun i hi => by
           by_cases h:i < k
           · exact HC.out i h
           · obtain rfl:i = k:=by omega
             exact hc)
         have e2:fold l n0 (k + 1) = 64 * F + (s[k + 1].toNat - 128):=by rw [hce,hF]; rfl
         unfold cont at hc;have a1:decide ((s[k + 1].toNat:Int) < 128) = false:=decide_eq_false (by omega);have a2:decide ((191:Int) < (s[k + 1].toNat:Int)) = false:=decide_eq_false (by omega);have hcc:128 <= s[k + 1].toNat:=by omega
         have E2:=lH e2;clear hc hce hF e2;go_wp2_with fail
         go_round
         case rel => exact ⟨k + 1,by omega,by go_num,by rw [E2.out]; go_num,HC2⟩
         case measure => simp [intOf]; omega
       · obtain rfl:x = 0:=by
           have h9:=HX2.out;rw [if_pos (show ¬ (∀ i,i < 1 -> cont (ent l (i + 1))) from fun h => hc (h k hlt))] at h9;exact h9
         unfold cont at hc
         by_cases a:s[k + 1].toNat < 128
         · have a1:decide ((s[k + 1].toNat:Int) < 128) = true:=decide_eq_true (by omega);clear hc hce hF a;go_wp2_with fail;go_ret;exact ⟨rfl,rfl⟩
         · have a1:decide ((s[k + 1].toNat:Int) < 128) = false:=decide_eq_false (by omega);have a2:decide ((191:Int) < (s[k + 1].toNat:Int)) = true:=decide_eq_true (by omega);clear hc hce hF a;go_wp2_with fail;go_ret;exact ⟨rfl,rfl⟩
     · obtain rfl:k = 1:=by omega
       have h9:=HX2.out;rw [if_neg (show ¬ ¬ (∀ i,i < 1 -> cont (ent l (i + 1))) from fun h => h HC.out)] at h9;generalize fold l n0 1 = F at h9 hF9 ⊢
       by_cases a1:F < 128
       · rw [if_pos (Or.inl a1)] at h9;subst h9;have t1:decide ((F:Int) < 128) = true:=decide_eq_true (by omega);go_wp2_with fail;go_ret;exact ⟨rfl,rfl⟩
       have t1:decide ((F:Int) < 128) = false:=decide_eq_false (by omega)
       by_cases a2:1114111 < F
       · rw [if_pos (Or.inr (Or.inl a2))] at h9;subst h9;have t2:decide ((1114111:Int) < (F:Int)) = true:=decide_eq_true (by omega);go_wp2_with fail;go_ret;exact ⟨rfl,rfl⟩
       have t2:decide ((1114111:Int) < (F:Int)) = false:=decide_eq_false (by omega)
       by_cases a3:55295 < F
       · have t3:decide ((55295:Int) < (F:Int)) = true:=decide_eq_true (by omega)
         by_cases a4:F < 57344
         · rw [if_pos (Or.inr (Or.inr ⟨a3,a4⟩))] at h9;subst h9;have t4:decide ((F:Int) < 57344) = true:=decide_eq_true (by omega);go_wp2_with fail;go_ret;exact ⟨rfl,rfl⟩
         · rw [if_neg (by omega)] at h9;subst h9;have t4:decide ((F:Int) < 57344) = false:=decide_eq_false (by omega);go_wp2_with fail;go_ret;exact ⟨rfl,rfl⟩
       · rw [if_neg (by omega)] at h9;subst h9;have t3:decide ((55295:Int) < (F:Int)) = false:=decide_eq_false (by omega);go_wp2_with fail;go_ret;exact ⟨rfl,rfl⟩
set_option maxHeartbeats 2000000 in
theorem point_2 (s:ByteArray) (h0:0 < s.size) (hm:s.size <= 1000000) (b:Nat) (hb:b = s[0].toNat) (h1:224 <= b) (h2:b < 240) (x:Nat) (hx:x = ptG s.data.toList (b - 224) 2 2048):Ret 184 #[.string s] (.int .i64 (x:Int)):=by
 intro w;obtain ⟨l,hl⟩:∃ l,l = s.data.toList:=⟨_,rfl⟩
 rw [<- hl] at hx;have hlen:l.length = s.size:=by rw [hl]; rfl
 obtain ⟨n0,hn0⟩:∃ n0,n0 = b - 224:=⟨_,rfl⟩
 rw [<- hn0] at hx;have hi:((b:Nat):Int) - 224 = (n0:Int):=by omega
 have hn9:n0 < 32:=by omega
 (have t1:decide ((b:Int) < 128) = false:=decide_eq_false (by omega); have t2:decide ((192:Int) <= (b:Int)) = true:=decide_eq_true (by omega); have t3:decide ((b:Int) < 224) = false:=decide_eq_false (by omega); have t4:decide ((224:Int) <= (b:Int)) = true:=decide_eq_true (by omega); have t5:decide ((b:Int) < 240) = true:=decide_eq_true (by omega); have t6:decide ((240:Int) <= (b:Int)) = false:=decide_eq_false (by omega); have t7:decide ((b:Int) < 248) = true:=decide_eq_true (by omega))
 rw [hb] at hi t1 t2 t3 t4 t5 t6 t7;have HB:=lH hb;have HI:=lH hn0;clear hb hn0 h1 h2;have HX:=lH hx;unfold ptG at hx
 by_cases hs:l.length <= 2
 · rw [if_pos hs] at hx;subst hx;have t8:decide ((s.size:Int) <= 2) = true:=decide_eq_true (by omega);clear hs hl
   go_enter Tryz.func184,Tryz.ntmps184
   go_wp2_with fail;go_ret;exact ⟨rfl,rfl⟩
 · rw [if_neg hs] at hx;have t8:decide ((s.size:Int) <= 2) = false:=decide_eq_false (by omega);have HL:=lH hl;have HX2:=lH hx;clear hx hl
   go_enter Tryz.func184,Tryz.ntmps184
   go_wp2_with fail
   go_loop [4,7] (fun n i => ∃ k:Nat,k <= 2 /\ i = .int .i64 ((k + 1:Nat):Int) /\ n = .int .i64 ((fold l n0 k:Nat):Int) /\ Hid (∀ i,i < k -> cont (ent l (i + 1)))) (fun _ i => 5 - (intOf i).toNat)
   case atStart => exact ⟨0,by omega,rfl,rfl,lH (fun i hi => absurd hi (Nat.not_lt_zero i))⟩
   case round =>
     clear t1 t2 t3 t4 t5 t6 t7 t8;obtain ⟨k,hk,rfl,rfl,HC⟩:=hrel;have hF9:=fold_lt l n0 hn9 k (by omega)
     by_cases hlt:k < 2
     · obtain ⟨F,hF⟩:∃ F,F = fold l n0 k:=⟨_,rfl⟩
       rw [<- hF] at hF9 ⊢;have hk2:k + 1 < s.size:=by omega
       have hce:s[k + 1].toNat = ent l (k + 1):=by rw [HL.out]; exact at_ent s (k + 1) hk2
       have hc9:=s[k + 1].toNat_lt
       by_cases hc:cont (ent l (k + 1))
       · have HC2:Hid (∀ i,i < k + 1 -> cont (ent l (i + 1))):=lH (fun i hi => by
           by_cases h:i < k
           · exact HC.out i h
           · obtain rfl:i = k:=by omega
             exact hc)
         have e2:fold l n0 (k + 1) = 64 * F + (s[k + 1].toNat - 128):=by rw [hce,hF]; rfl
         unfold cont at hc;have a1:decide ((s[k + 1].toNat:Int) < 128) = false:=decide_eq_false (by omega);have a2:decide ((191:Int) < (s[k + 1].toNat:Int)) = false:=decide_eq_false (by omega);have hcc:128 <= s[k + 1].toNat:=by omega
         have E2:=lH e2;clear hc hce hF e2;go_wp2_with fail
         go_round
         case rel => exact ⟨k + 1,by omega,by go_num,by rw [E2.out]; go_num,HC2⟩
         case measure => simp [intOf]; omega
       · obtain rfl:x = 0:=by
           have h9:=HX2.out;rw [if_pos (show ¬ (∀ i,i < 2 -> cont (ent l (i + 1))) from fun h => hc (h k hlt))] at h9;exact h9
         unfold cont at hc
         by_cases a:s[k + 1].toNat < 128
         · have a1:decide ((s[k + 1].toNat:Int) < 128) = true:=decide_eq_true (by omega);clear hc hce hF a;go_wp2_with fail;go_ret;exact ⟨rfl,rfl⟩
         · have a1:decide ((s[k + 1].toNat:Int) < 128) = false:=decide_eq_false (by omega);have a2:decide ((191:Int) < (s[k + 1].toNat:Int)) = true:=decide_eq_true (by omega);clear hc hce hF a;go_wp2_with fail;go_ret;exact ⟨rfl,rfl⟩
     · obtain rfl:k = 2:=by omega
       have h9:=HX2.out;rw [if_neg (show ¬ ¬ (∀ i,i < 2 -> cont (ent l (i + 1))) from fun h => h HC.out)] at h9;generalize fold l n0 2 = F at h9 hF9 ⊢
       by_cases a1:F < 2048
       · rw [if_pos (Or.inl a1)] at h9;subst h9;have t1:decide ((F:Int) < 2048) = true:=decide_eq_true (by omega);go_wp2_with fail;go_ret;exact ⟨rfl,rfl⟩
       have t1:decide ((F:Int) < 2048) = false:=decide_eq_false (by omega)
       by_cases a2:1114111 < F
       · rw [if_pos (Or.inr (Or.inl a2))] at h9;subst h9;have t2:decide ((1114111:Int) < (F:Int)) = true:=decide_eq_true (by omega);go_wp2_with fail;go_ret;exact ⟨rfl,rfl⟩
       have t2:decide ((1114111:Int) < (F:Int)) = false:=decide_eq_false (by omega)
       by_cases a3:55295 < F
       · have t3:decide ((55295:Int) < (F:Int)) = true:=decide_eq_true (by omega)
         by_cases a4:F < 57344
         · rw [if_pos (Or.inr (Or.inr ⟨a3,a4⟩))] at h9;subst h9;have t4:decide ((F:Int) < 57344) = true:=decide_eq_true (by omega);go_wp2_with fail;go_ret;exact ⟨rfl,rfl⟩
         · rw [if_neg (by omega)] at h9;subst h9;have t4:decide ((F:Int) < 57344) = false:=decide_eq_false (by omega);go_wp2_with fail;go_ret;exact ⟨rfl,rfl⟩
       · rw [if_neg (by omega)] at h9;subst h9;have t3:decide ((55295:Int) < (F:Int)) = false:=decide_eq_false (by omega);go_wp2_with fail;go_ret;exact ⟨rfl,rfl⟩
set_option maxHeartbeats 2000000 in
theorem point_3 (s:ByteArray) (h0:0 < s.size) (hm:s.size <= 1000000) (b:Nat) (hb:b = s[0].toNat) (h1:240 <= b) (h2:b < 248) (x:Nat) (hx:x = ptG s.data.toList (b - 240) 3 65536):Ret 184 #[.string s] (.int .i64 (x:Int)):=by
 intro w;obtain ⟨l,hl⟩:∃ l,l = s.data.toList:=⟨_,rfl⟩
 rw [<- hl] at hx;have hlen:l.length = s.size:=by rw [hl]; rfl
 obtain ⟨n0,hn0⟩:∃ n0,n0 = b - 240:=⟨_,rfl⟩
 rw [<- hn0] at hx;have hi:((b:Nat):Int) - 240 = (n0:Int):=by omega
 have hn9:n0 < 32:=by omega
 (have t1:decide ((b:Int) < 128) = false:=decide_eq_false (by omega); have t2:decide ((192:Int) <= (b:Int)) = true:=decide_eq_true (by omega); have t3:decide ((b:Int) < 224) = false:=decide_eq_false (by omega); have t4:decide ((224:Int) <= (b:Int)) = true:=decide_eq_true (by omega); have t5:decide ((b:Int) < 240) = false:=decide_eq_false (by omega); have t6:decide ((240:Int) <= (b:Int)) = true:=decide_eq_true (by omega); have t7:decide ((b:Int) < 248) = true:=decide_eq_true (by omega))
 rw [hb] at hi t1 t2 t3 t4 t5 t6 t7;have HB:=lH hb;have HI:=lH hn0;clear hb hn0 h1 h2;have HX:=lH hx;unfold ptG at hx
 by_cases hs:l.length <= 3
 · rw [if_pos hs] at hx;subst hx;have t8:decide ((s.size:Int) <= 3) = true:=decide_eq_true (by omega);clear hs hl
   go_enter Tryz.func184,Tryz.ntmps184
   go_wp2_with fail;go_ret;exact ⟨rfl,rfl⟩
 · rw [if_neg hs] at hx;have t8:decide ((s.size:Int) <= 3) = false:=decide_eq_false (by omega);have HL:=lH hl;have HX2:=lH hx;clear hx hl
   go_enter Tryz.func184,Tryz.ntmps184
   go_wp2_with fail
   go_loop [4,7] (fun n i => ∃ k:Nat,k <= 3 /\ i = .int .i64 ((k + 1:Nat):Int) /\ n = .int .i64 ((fold l n0 k:Nat):Int) /\ Hid (∀ i,i < k -> cont (ent l (i + 1)))) (fun _ i => 5 - (intOf i).toNat)
   case atStart => exact ⟨0,by omega,rfl,rfl,lH (fun i hi => absurd hi (Nat.not_lt_zero i))⟩
   case round =>
     clear t1 t2 t3 t4 t5 t6 t7 t8;obtain ⟨k,hk,rfl,rfl,HC⟩:=hrel;have hF9:=fold_lt l n0 hn9 k (by omega)
     by_cases hlt:k < 3
     · obtain ⟨F,hF⟩:∃ F,F = fold l n0 k:=⟨_,rfl⟩
       rw [<- hF] at hF9 ⊢;have hk2:k + 1 < s.size:=by omega
       have hce:s[k + 1].toNat = ent l (k + 1):=by rw [HL.out]; exact at_ent s (k + 1) hk2
       have hc9:=s[k + 1].toNat_lt
       by_cases hc:cont (ent l (k + 1))
       · have HC2:Hid (∀ i,i < k + 1 -> cont (ent l (i + 1))):=lH (fun i hi => by
           by_cases h:i < k
           · exact HC.out i h
           · obtain rfl:i = k:=by omega
             exact hc)
         have e2:fold l n0 (k + 1) = 64 * F + (s[k + 1].toNat - 128):=by rw [hce,hF]; rfl
         unfold cont at hc;have a1:decide ((s[k + 1].toNat:Int) < 128) = false:=decide_eq_false (by omega);have a2:decide ((191:Int) < (s[k + 1].toNat:Int)) = false:=decide_eq_false (by omega);have hcc:128 <= s[k + 1].toNat:=by omega
         have E2:=lH e2;clear hc hce hF e2;go_wp2_with fail
         go_round
         case rel => exact ⟨k + 1,by omega,by go_num,by rw [E2.out]; go_num,HC2⟩
         case measure => simp [intOf]; omega
       · obtain rfl:x = 0:=by
           have h9:=HX2.out;rw [if_pos (show ¬ (∀ i,i < 3 -> cont (ent l (i + 1))) from fun h => hc (h k hlt))] at h9;exact h9
         unfold cont at hc
         by_cases a:s[k + 1].toNat < 128
         · have a1:decide ((s[k + 1].toNat:Int) < 128) = true:=decide_eq_true (by omega);clear hc hce hF a;go_wp2_with fail;go_ret;exact ⟨rfl,rfl⟩
         · have a1:decide ((s[k + 1].toNat:Int) < 128) = false:=decide_eq_false (by omega);have a2:decide ((191:Int) < (s[k + 1].toNat:Int)) = true:=decide_eq_true (by omega);clear hc hce hF a;go_wp2_with fail;go_ret;exact ⟨rfl,rfl⟩
     · obtain rfl:k = 3:=by omega
       have h9:=HX2.out;rw [if_neg (show ¬ ¬ (∀ i,i < 3 -> cont (ent l (i + 1))) from fun h => h HC.out)] at h9;generalize fold l n0 3 = F at h9 hF9 ⊢
       by_cases a1:F < 65536
       · rw [if_pos (Or.inl a1)] at h9;subst h9;have t1:decide ((F:Int) < 65536) = true:=decide_eq_true (by omega);go_wp2_with fail;go_ret;exact ⟨rfl,rfl⟩
       have t1:decide ((F:Int) < 65536) = false:=decide_eq_false (by omega)
       by_cases a2:1114111 < F
       · rw [if_pos (Or.inr (Or.inl a2))] at h9;subst h9;have t2:decide ((1114111:Int) < (F:Int)) = true:=decide_eq_true (by omega);go_wp2_with fail;go_ret;exact ⟨rfl,rfl⟩
       have t2:decide ((1114111:Int) < (F:Int)) = false:=decide_eq_false (by omega)
       by_cases a3:55295 < F
       · have t3:decide ((55295:Int) < (F:Int)) = true:=decide_eq_true (by omega)
         by_cases a4:F < 57344
         · rw [if_pos (Or.inr (Or.inr ⟨a3,a4⟩))] at h9;subst h9;have t4:decide ((F:Int) < 57344) = true:=decide_eq_true (by omega);go_wp2_with fail;go_ret;exact ⟨rfl,rfl⟩
         · rw [if_neg (by omega)] at h9;subst h9;have t4:decide ((F:Int) < 57344) = false:=decide_eq_false (by omega);go_wp2_with fail;go_ret;exact ⟨rfl,rfl⟩
       · rw [if_neg (by omega)] at h9;subst h9;have t3:decide ((55295:Int) < (F:Int)) = false:=decide_eq_false (by omega);go_wp2_with fail;go_ret;exact ⟨rfl,rfl⟩
theorem point_low (s:ByteArray) (h0:0 < s.size) (hb:s[0].toNat < 128):Ret 184 #[.string s] (.int .i64 1):=by
 intro w;have hc9:s[0].toNat < 256:=s[0].toNat_lt;have t1:decide ((s[0].toNat:Int) < 128) = true:=decide_eq_true (by omega);clear hb
 go_enter Tryz.func184,Tryz.ntmps184
 go_wp2_with fail;go_ret;exact ⟨rfl,rfl⟩
theorem point_mid (s:ByteArray) (h0:0 < s.size) (h1:128 <= s[0].toNat) (hb:s[0].toNat < 192):Ret 184 #[.string s] (.int .i64 0):=by
 intro w;have hc9:s[0].toNat < 256:=s[0].toNat_lt;have t1:decide ((s[0].toNat:Int) < 128) = false:=decide_eq_false (by omega);have t2:decide ((192:Int) <= (s[0].toNat:Int)) = false:=decide_eq_false (by omega);have t4:decide ((224:Int) <= (s[0].toNat:Int)) = false:=decide_eq_false (by omega);have t6:decide ((240:Int) <= (s[0].toNat:Int)) = false:=decide_eq_false (by omega);clear hb h1
 go_enter Tryz.func184,Tryz.ntmps184
 go_wp2_with fail;go_ret;exact ⟨rfl,rfl⟩
theorem point_top (s:ByteArray) (h0:0 < s.size) (h1:248 <= s[0].toNat):Ret 184 #[.string s] (.int .i64 0):=by
 intro w;have hc9:s[0].toNat < 256:=s[0].toNat_lt;have t1:decide ((s[0].toNat:Int) < 128) = false:=decide_eq_false (by omega);have t2:decide ((192:Int) <= (s[0].toNat:Int)) = true:=decide_eq_true (by omega);have t3:decide ((s[0].toNat:Int) < 224) = false:=decide_eq_false (by omega);have t4:decide ((224:Int) <= (s[0].toNat:Int)) = true:=decide_eq_true (by omega);have t5:decide ((s[0].toNat:Int) < 240) = false:=decide_eq_false (by omega);have t6:decide ((240:Int) <= (s[0].toNat:Int)) = true:=decide_eq_true (by omega);have t7:decide ((s[0].toNat:Int) < 248) = false:=decide_eq_false (by omega);clear h1
 go_enter Tryz.func184,Tryz.ntmps184
 go_wp2_with fail;go_ret;exact ⟨rfl,rfl⟩
theorem point_ret (s:ByteArray) (h0:0 < s.size) (hm:s.size <= 1000000) (x:Nat) (hx:x = ptL s.data.toList):Ret 184 #[.string s] (.int .i64 (x:Int)):=by
 have e:=at_ent s 0 h0;have h8:=s[0].toNat_lt;unfold ptL at hx;rw [<- e] at hx
 by_cases a0:s[0].toNat < 128
 · rw [if_pos a0] at hx;subst hx;exact point_low s h0 a0
 rw [if_neg a0] at hx
 by_cases a1:192 <= s[0].toNat /\ s[0].toNat < 224
 · rw [if_pos a1] at hx;exact point_1 s h0 hm _ rfl a1.1 a1.2 x hx
 rw [if_neg a1] at hx
 by_cases a2:224 <= s[0].toNat /\ s[0].toNat < 240
 · rw [if_pos a2] at hx;exact point_2 s h0 hm _ rfl a2.1 a2.2 x hx
 rw [if_neg a2] at hx
 by_cases a3:240 <= s[0].toNat /\ s[0].toNat < 248
 · rw [if_pos a3] at hx;exact point_3 s h0 hm _ rfl a3.1 a3.2 x hx
 rw [if_neg a3] at hx;subst hx
 by_cases a4:s[0].toNat < 192
 · exact point_mid s h0 (by omega) a4
 · exact point_top s h0 (by omega)
set_option maxHeartbeats 1000000 in
theorem utf_ret (s:ByteArray) (hm:s.size <= 1000000) (q:Bool) (hq:q = utfB s.data.toList):Ret 176 #[.string s] (.bool q):=by
 intro w;have HQ:=lH hq;clear hq
 go_enter Tryz.func176,Tryz.ntmps176
 go_wp2_with fail
 go_loop [0] (fun v => ∃ (R:ByteArray),v = .string R /\ R.size <= s.size /\ Hid (q = utfB R.data.toList)) (fun v => match v with | .string r => r.size | _ => 0)
 case atStart => exact ⟨s,rfl,Nat.le_refl _,HQ⟩
 case round =>
   clear HQ;obtain ⟨R,rfl,hR,HQ⟩:=hrel;have hlen:R.data.toList.length = R.size:=rfl
   by_cases h0:0 < R.size
   · obtain ⟨x,hx⟩:∃ x,x = ptL R.data.toList:=⟨_,rfl⟩
     have c1:=point_ret R h0 (by omega) x hx
     by_cases hz:x = 0
     · subst hz;obtain rfl:q = false:=by rw [HQ.out]; exact utfB_bad _ (by omega) hx.symm
       clear hx;go_wp2_with fail;refine c1.calls ?_;go_wp2_with fail;go_ret;exact ⟨rfl,rfl⟩
     · have hle:x <= R.size:=by
         have:ptL R.data.toList <= R.data.toList.length:=by
           cases hl:R.data.toList with
           | nil => rw [hl] at hlen; simp at hlen; omega
           | cons a t => exact pt_len a t
         omega
       obtain ⟨R2,hR2⟩:∃ R2,R2 = R.extract x R.size:=⟨_,rfl⟩
       have hR2s:R2.size = R.size - x:=by rw [hR2,ByteArray.size_extract]; omega
       have HQ2:Hid (q = utfB R2.data.toList):=lH (by
         rw [HQ.out,utfB_step _ (by omega) (by rw [<- hx]; exact hz),<- hx,hR2,ext_list,List.take_of_length_le (by rw [List.length_drop]; omega)])
       have hR2':=hR2.symm;have t1:((x:Int) == 0) = false:=by rw [beq_eq_false_iff_ne]; omega
       clear hx hR2;go_wp2_with fail;refine c1.calls ?_;go_wp2_with fail
       go_round
       case rel => exact ⟨R2,rfl,by omega,HQ2⟩
       case measure => simp; omega
   · obtain rfl:q = true:=by rw [HQ.out,List.eq_nil_of_length_eq_zero (show R.data.toList.length = 0 by omega)]; rfl
     go_wp2_with fail;go_ret;exact ⟨rfl,rfl⟩
end RefUtf
namespace Whole
open RefOct (low low_len)
open Oct (numN trimL)
def rightL:List UInt8 -> Bool
 | [] => false
 | [_] => true
 | a :: b :: _ => !(decide (a.toNat = 0) && decide (b.toNat < 128)) && !(decide (a.toNat = 255) && decide (128 <= b.toNat))
def sg (l:List UInt8) (k:Nat):Int:=(numN (l.take k):Int) - if 128 <= (l.getD 0 0).toNat then 256 ^ k else 0
def sgn (l:List UInt8):Int:=sg l l.length
def wid (n:Int):Nat:=if -128 <= n /\ n < 128 then 1 else if -32768 <= n /\ n < 32768 then 2 else if -8388608 <= n /\ n < 8388608 then 3 else if -2147483648 <= n /\ n < 2147483648 then 4 else if -549755813888 <= n /\ n < 549755813888 then 5
 else if -140737488355328 <= n /\ n < 140737488355328 then 6 else if -36028797018963968 <= n /\ n < 36028797018963968 then 7 else 8
theorem wid_bd (n:Int):1 <= wid n /\ wid n <= 8:=by unfold wid; constructor <;> (repeat' split) <;> omega
theorem low_at (u:Int) (k:Nat):low u (k + 1) = UInt8.ofNat (u / 2 ^ (8 * k) % 256).toNat :: low u k:=rfl
theorem byte_at (u:Int) (k:Nat):((UInt8.ofNat (u / 2 ^ (8 * k) % 256).toNat).toNat:Int) = u / 2 ^ (8 * k) % 256:=by
 have h1:0 <= u / 2 ^ (8 * k) % 256:=Int.emod_nonneg _ (by decide);have h2:u / 2 ^ (8 * k) % 256 < 256:=Int.emod_lt_of_pos _ (by decide);rw [UInt8.toNat_ofNat'];omega
theorem right_wide (n u:Int) (hu:u = n % 18446744073709551616) (h1:-9223372036854775808 <= n) (h2:n <= 9223372036854775807) (j:Nat) (hj:2 <= j) (hj8:j <= 8) (hw:wid n <= j):rightL (low u j) = false ↔ wid n < j:=by
 obtain ⟨k,rfl⟩:∃ k,j = k + 2:=⟨j - 2,by omega⟩
 rw [low_at,low_at];have b1:=byte_at u (k + 1);have b2:=byte_at u k
 show (!(decide ((UInt8.ofNat (u / 2 ^ (8 * (k + 1)) % 256).toNat).toNat = 0) && decide ((UInt8.ofNat (u / 2 ^ (8 * k) % 256).toNat).toNat < 128)) && !(decide ((UInt8.ofNat (u / 2 ^ (8 * (k + 1)) % 256).toNat).toNat = 255) && decide (128 <= (UInt8.ofNat (u / 2 ^ (8 * k) % 256).toNat).toNat))) = false ↔ _
 generalize (UInt8.ofNat (u / 2 ^ (8 * (k + 1)) % 256).toNat).toNat = A at *;generalize (UInt8.ofNat (u / 2 ^ (8 * k) % 256).toNat).toNat = B at *;have key:(!(decide (A = 0) && decide (B < 128)) && !(decide (A = 255) && decide (128 <= B))) = false ↔ (A = 0 /\ B < 128) ∨ (A = 255 /\ 128 <= B):=by
   by_cases c1:A = 0 <;> by_cases c2:B < 128 <;> by_cases c3:A = 255 <;> by_cases c4:128 <= B <;> simp [c1,c2,c3,c4] <;> omega
 rw [key];rcases (show k = 0 ∨ k = 1 ∨ k = 2 ∨ k = 3 ∨ k = 4 ∨ k = 5 ∨ k = 6 by omega) with rfl | rfl | rfl | rfl | rfl | rfl | rfl <;>
 · simp only [Nat.zero_add,Nat.reduceAdd,Nat.reduceMul,Nat.mul_zero,Int.reducePow,Int.pow_zero,Int.ediv_one] at b1 b2;unfold wid at hw ⊢
   repeat' split at hw
   all_goals first | (exfalso; omega) | skip
   all_goals simp only [*,if_true,if_false,and_self]
   all_goals omega
theorem right_low (n u:Int) (hu:u = n % 18446744073709551616) (hr:-9223372036854775808 <= n /\ n <= 9223372036854775807):rightL (low u (wid n)) = true:=by
 obtain ⟨h1,h8⟩:=wid_bd n
 by_cases h2:2 <= wid n
 · have h3:=right_wide n u hu hr.1 hr.2 (wid n) h2 h8 (Nat.le_refl _);cases hc:rightL (low u (wid n)) with
   | true => rfl
   | false => exact absurd (h3.1 hc) (Nat.lt_irrefl _)
 · rw [show wid n = 1 by omega]; rfl
end Whole
namespace Whole
theorem ret_bool {b c:Bool} (h:b = c):Ending.returned (.bool b) = Ending.returned (.bool c):=by rw [h]
theorem get_at (s:ByteArray) (k:Nat) (h:k < s.size):s.data.toList[k]? = some s[k]:=by rw [List.getElem?_eq_getElem (show k < s.data.toList.length from h)]; rfl
theorem two_list (s:ByteArray) (h:1 < s.size):∃ l,s.data.toList = s[0] :: s[1] :: l:=by
 have h0:=get_at s 0 (by omega);have h1:=get_at s 1 h;cases hl:s.data.toList with
 | nil => rw [hl] at h0; simp at h0
 | cons a m =>
   cases m with
   | nil => rw [hl] at h1; simp at h1
   | cons b m =>
     rw [hl] at h0 h1;simp at h0 h1;exact ⟨m,by rw [h0,h1]⟩
set_option maxHeartbeats 1000000 in
theorem right_ret (s:ByteArray) (hm:s.size <= 140737488355328) (B:Bool) (hB:B = rightL s.data.toList):Ret 110 #[.string s] (.bool B):=by
 intro w
 by_cases h0:s.size = 0
 · obtain rfl:s = ⟨#[]⟩:=ba_ext (List.eq_nil_of_length_eq_zero h0);have hB2:B = false:=hB;subst hB2;clear hB h0 hm
   go_enter Tryz.func110,Tryz.ntmps110
   go_wp2_with fail;go_ret;exact ⟨rfl,rfl⟩
 · by_cases h1:s.size = 1
   · have hB2:B = true:=by
       rw [hB];cases hl:s.data.toList with
       | nil => exact absurd (show s.data.toList.length = 0 by rw [hl]; rfl) h0
       | cons a m =>
         cases m with
         | nil => rfl
         | cons b m => have h9:s.data.toList.length = 1:=h1; rw [hl] at h9; simp at h9
     subst hB2;have hne:=some_bytes s (by omega);have hne2:=some_bytes_f s (by omega);have hb1:((s.size:Int) == 1) = true:=by rw [h1]; rfl
     have hlt:s.size < 2:=by omega
     have hge:1 <= s.size:=by omega
     clear hB h0 h1
     go_enter Tryz.func110,Tryz.ntmps110
     go_wp2_with fail;go_ret;exact ⟨rfl,rfl⟩
   · have h2:1 < s.size:=by omega
     obtain ⟨l,hl⟩:=two_list s h2;rw [hl] at hB;have hne2:=some_bytes_f s (by omega);have hb1:((s.size:Int) == 1) = false:=by rw [beq_eq_false_iff_ne]; omega
     have hlt0:=s[0].toNat_lt;have hlt1:=s[1].toNat_lt;have hB':B = (!(decide (s[0].toNat = 0) && decide (s[1].toNat < 128)) && !(decide (s[0].toNat = 255) && decide (128 <= s[1].toNat))):=hB;clear hB hl h0 h1
     by_cases a0:s[0].toNat = 0
     · have e1:((s[0].toNat:Int) == 0) = true:=by rw [a0]; rfl
       have e2:((s[0].toNat:Int) == 255) = false:=by rw [a0]; rfl
       have e3:((s[0].toNat:Int) != 255) = true:=by rw [a0]; rfl
       by_cases b1:s[1].toNat < 128
       · have d1:decide (128 <= (s[1].toNat:Int)) = false:=by simp; omega
         have hB2:B = false:=by rw [hB']; simp [a0,b1]
         subst hB2;clear hB' a0
         go_enter Tryz.func110,Tryz.ntmps110
         go_wp2_with fail;go_ret;exact ⟨by first | rfl | exact ret_bool (by simp; omega),rfl⟩
       · have d1:decide (128 <= (s[1].toNat:Int)) = true:=by simp; omega
         have hB2:B = true:=by rw [hB']; simp [a0,b1]
         subst hB2;clear hB' a0
         go_enter Tryz.func110,Tryz.ntmps110
         go_wp2_with fail;go_ret;exact ⟨by first | rfl | exact ret_bool (by simp; omega),rfl⟩
     · have e1:((s[0].toNat:Int) == 0) = false:=by rw [beq_eq_false_iff_ne]; omega
       by_cases a2:s[0].toNat = 255
       · have e2:((s[0].toNat:Int) == 255) = true:=by rw [a2]; rfl
         have e3:((s[0].toNat:Int) != 255) = false:=by rw [a2]; rfl
         by_cases b1:s[1].toNat < 128
         · have d1:decide (128 <= (s[1].toNat:Int)) = false:=by simp; omega
           have hB2:B = true:=by rw [hB']; simp [a2]; omega
           subst hB2;clear hB' a0 a2
           go_enter Tryz.func110,Tryz.ntmps110
           go_wp2_with fail;go_ret;exact ⟨by first | rfl | exact ret_bool (by simp; omega),rfl⟩
         · have d1:decide (128 <= (s[1].toNat:Int)) = true:=by simp; omega
           have hB2:B = false:=by rw [hB']; simp [a2]; omega
           subst hB2;clear hB' a0 a2
           go_enter Tryz.func110,Tryz.ntmps110
           go_wp2_with fail;go_ret;exact ⟨by first | rfl | exact ret_bool (by simp; omega),rfl⟩
       · have e2:((s[0].toNat:Int) == 255) = false:=by rw [beq_eq_false_iff_ne]; omega
         have e3:((s[0].toNat:Int) != 255) = true:=by rw [bne_iff_ne]; omega
         have hB2:B = true:=by rw [hB']; simp [a0,a2]
         subst hB2;clear hB' a0 a2
         go_enter Tryz.func110,Tryz.ntmps110
         go_wp2_with fail;go_ret;exact ⟨by first | rfl | exact ret_bool (by simp; omega),rfl⟩
set_option maxHeartbeats 1000000 in
theorem rright_ret (s:ByteArray) (hm:s.size <= 140737488355328) (B:Bool) (hB:B = rightL s.data.toList):Ret 174 #[.string s] (.bool B):=by
 intro w
 by_cases h0:s.size = 0
 · obtain rfl:s = ⟨#[]⟩:=ba_ext (List.eq_nil_of_length_eq_zero h0);have hB2:B = false:=hB;subst hB2;clear hB h0 hm
   go_enter Tryz.func174,Tryz.ntmps174
   go_wp2_with fail;go_ret;exact ⟨rfl,rfl⟩
 · by_cases h1:s.size = 1
   · have hB2:B = true:=by
       rw [hB];cases hl:s.data.toList with
       | nil => exact absurd (show s.data.toList.length = 0 by rw [hl]; rfl) h0
       | cons a m =>
         cases m with
         | nil => rfl
         | cons b m => have h9:s.data.toList.length = 1:=h1; rw [hl] at h9; simp at h9
     subst hB2;have hne:=some_bytes s (by omega);have hne2:=some_bytes_f s (by omega);have hb1:((s.size:Int) == 1) = true:=by rw [h1]; rfl
     have hlt:s.size < 2:=by omega
     have hge:1 <= s.size:=by omega
     clear hB h0 h1
     go_enter Tryz.func174,Tryz.ntmps174
     go_wp2_with fail;go_ret;exact ⟨rfl,rfl⟩
   · have h2:1 < s.size:=by omega
     obtain ⟨l,hl⟩:=two_list s h2;rw [hl] at hB;have hne2:=some_bytes_f s (by omega);have hb1:((s.size:Int) == 1) = false:=by rw [beq_eq_false_iff_ne]; omega
     have hlt0:=s[0].toNat_lt;have hlt1:=s[1].toNat_lt;have hB':B = (!(decide (s[0].toNat = 0) && decide (s[1].toNat < 128)) && !(decide (s[0].toNat = 255) && decide (128 <= s[1].toNat))):=hB;clear hB hl h0 h1
     by_cases a0:s[0].toNat = 0
     · have e1:((s[0].toNat:Int) == 0) = true:=by rw [a0]; rfl
       have e2:((s[0].toNat:Int) == 255) = false:=by rw [a0]; rfl
       have e3:((s[0].toNat:Int) != 255) = true:=by rw [a0]; rfl
       by_cases b1:s[1].toNat < 128
       · have d1:decide (128 <= (s[1].toNat:Int)) = false:=by simp; omega
         have hB2:B = false:=by rw [hB']; simp [a0,b1]
         subst hB2;clear hB' a0
         go_enter Tryz.func174,Tryz.ntmps174
         go_wp2_with fail;go_ret;exact ⟨by first | rfl | exact ret_bool (by simp; omega),rfl⟩
       · have d1:decide (128 <= (s[1].toNat:Int)) = true:=by simp; omega
         have hB2:B = true:=by rw [hB']; simp [a0,b1]
         subst hB2;clear hB' a0
         go_enter Tryz.func174,Tryz.ntmps174
         go_wp2_with fail;go_ret;exact ⟨by first | rfl | exact ret_bool (by simp; omega),rfl⟩
     · have e1:((s[0].toNat:Int) == 0) = false:=by rw [beq_eq_false_iff_ne]; omega
       by_cases a2:s[0].toNat = 255
       · have e2:((s[0].toNat:Int) == 255) = true:=by rw [a2]; rfl
         have e3:((s[0].toNat:Int) != 255) = false:=by rw [a2]; rfl
         by_cases b1:s[1].toNat < 128
         · have d1:decide (128 <= (s[1].toNat:Int)) = false:=by simp; omega
           have hB2:B = true:=by rw [hB']; simp [a2]; omega
           subst hB2;clear hB' a0 a2
           go_enter Tryz.func174,Tryz.ntmps174
           go_wp2_with fail;go_ret;exact ⟨by first | rfl | exact ret_bool (by simp; omega),rfl⟩
         · have d1:decide (128 <= (s[1].toNat:Int)) = true:=by simp; omega
           have hB2:B = false:=by rw [hB']; simp [a2]; omega
           subst hB2;clear hB' a0 a2
           go_enter Tryz.func174,Tryz.ntmps174
           go_wp2_with fail;go_ret;exact ⟨by first | rfl | exact ret_bool (by simp; omega),rfl⟩
       · have e2:((s[0].toNat:Int) == 255) = false:=by rw [beq_eq_false_iff_ne]; omega
         have e3:((s[0].toNat:Int) != 255) = true:=by rw [bne_iff_ne]; omega
         have hB2:B = true:=by rw [hB']; simp [a0,a2]
         subst hB2;clear hB' a0 a2
         go_enter Tryz.func174,Tryz.ntmps174
         go_wp2_with fail;go_ret;exact ⟨by first | rfl | exact ret_bool (by simp; omega),rfl⟩
def decB (l:List UInt8):Bool:=rightL l && decide (l.length <= 8)
def decV (l:List UInt8):Int:=if decB l = true then sgn l else 0
theorem low_drop (u:Int) (j:Nat):(bs (RefOct.low u (j + 1))).extract 1 (bs (RefOct.low u (j + 1))).size = bs (RefOct.low u j):=by
 apply ba_ext
 rw [ext_list,list_bs,list_bs,low_at,List.drop_succ_cons,List.drop_zero,List.take_of_length_le (by rw [size_bs,List.length_cons]; omega)]
theorem wrap_u64 (n:Int):IntKind.u64.wrap n = n % 18446744073709551616:=by simp [IntKind.wrap,IntKind.bits,IntKind.signed]
set_option maxHeartbeats 2000000 in
theorem enc_mak (n u:Int) (hu:u = n % 18446744073709551616) (h1:-9223372036854775808 <= n) (h2:n <= 9223372036854775807) (X:ByteArray) (hX:X = bs (RefOct.low u (wid n))):Mak 66 #[.int .i64 n] (.string X):=by
 intro w;have c1:Mak 109 #[.int .u64 u,.int .i64 8] (.string (bs (RefOct.low u 8))):=fun w => by
   have h:=Oct.put_mid u 8 w (by omega) (by omega) (by decide) (by decide)
   rwa [RefOct.put_same u 8 (by decide)] at h
 have H0:=lH (Since.refl w);have hwb:=wid_bd n;obtain ⟨hw1,hw8⟩:=hwb;have Hu:=lH hu;clear hu;have HX:=lH hX;clear hX
 go_enter Tryz.func66,Tryz.ntmps66
 go_wp2_with fail;rw [show IntKind.u64.wrap n = u from by rw [wrap_u64 n,Hu.out]];refine (c1).calls H0.out ?_;intro w1 h1;have H1:=lH h1;clear h1;go_wp2_with fail
 go_loop [3] (fun c => ∃ j:Nat,wid n <= j /\ 1 <= j /\ j <= 8 /\ c = .string (bs (RefOct.low u j))) (fun c => match c with | .string S => S.size | _ => 0)
 case atStart => exact ⟨8,hw8,by omega,by omega,rfl⟩
 case round =>
   obtain ⟨j,hj,hj1,hj8,rfl⟩:=hrel;have hsz:(bs (RefOct.low u j)).size = j:=by rw [size_bs,RefOct.low_len]
   by_cases hlt:wid n < j
   · have hr:rightL (RefOct.low u j) = false:=(right_wide n u Hu.out h1 h2 j (by omega) hj8 hj).2 hlt;have c2:=right_ret (bs (RefOct.low u j)) (by rw [hsz]; omega) false (by rw [list_bs,hr]);obtain ⟨i,rfl⟩:∃ i,j = i + 1:=⟨j - 1,by omega⟩
     have hd:=low_drop u i;have hsz2:(bs (RefOct.low u i)).size = i:=by rw [size_bs,RefOct.low_len]
     obtain ⟨C,hC⟩:∃ C,C = bs (RefOct.low u (i + 1)):=⟨_,rfl⟩
     rw [<- hC] at c2 hd hsz ⊢;have Hr:=lH hr;clear hr;have HC:=lH hC;clear hC;have Hd:=lH hd;clear hd;have Hsz2:=lH hsz2;clear hsz2;have hge:1 <= C.size:=by rw [hsz]; omega
     have hle:C.size <= 8:=by rw [hsz]; omega
     have Hsz:=lH hsz;clear hsz;go_wp2_with fail;refine (c2).calls ?_;go_wp2_with fail
     go_round
     case rel => exact ⟨i,by omega,by omega,by omega,by rw [Hd.out]⟩
     case measure => simp only []; rw [Hd.out,Hsz2.out,Hsz.out]; omega
   · obtain rfl:j = wid n:=by omega
     have c2:=right_ret (bs (RefOct.low u (wid n))) (by rw [hsz]; omega) true (by rw [list_bs,right_low n u Hu.out ⟨h1,h2⟩]);rw [<- HX.out] at c2 ⊢;have Hsz:=lH hsz;clear hsz;go_wp2_with fail;refine (c2).calls ?_;go_wp2_with fail;go_ret;exact ⟨rfl,H1.out⟩
end Whole
namespace Oct
end Oct
structure Cel (w:World) (b n:Nat) (f:Nat -> Value):Prop where
 lt:b < w.heap.size
 cell:∀ i,i < n -> w.cell? ⟨b,i,none⟩ = some (f i)
 free:∀ i,i < n -> w.frozen? ⟨b,i,none⟩ = false
def Apart (a b:Value):Prop:=∀ g,a.ownBlock = some g -> b.ownBlock ≠ some g
end Go.Proofs.YtpanhhjkecebkaaGreat
