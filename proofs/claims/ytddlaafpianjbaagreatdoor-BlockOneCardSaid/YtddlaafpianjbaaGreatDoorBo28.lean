import Derived.Test.YtddlaafpianjbaaGreatDoorBo27
set_option maxRecDepth 100000
namespace Go.Proofs.YtddlaafpianjbaaGreatDoor
open Go.RowKit
namespace RefKdf
open Rnd Aes Cmac Kdf
theorem rounds_yes (m n:Nat) (h1:1 <= m) (h2:m <= 4080) (hn:n = (m - 1) / 16 + 1):Ret 193 #[.int .i64 (m:Int)] (.int .i64 (n:Int)):=by
 intro w
 have t1:decide ((m:Int) < 1) = false:=decide_eq_false (by omega)
 have t2:decide ((4080:Int) < (m:Int)) = false:=decide_eq_false (by omega)
 have HN:=lH hn
 have hn9:n <= 255:=by omega
 clear hn
 go_enter Tryz.func193,Tryz.ntmps193
 go_wp2_with fail
 go_loop [3] (fun i => ∃ k:Nat,k <= n /\ i = .int .i64 (k:Int)) (fun i => n - (intOf i).toNat)
 case atStart => exact ⟨0,by omega,rfl⟩
 case round =>
   obtain ⟨k,hk,rfl⟩:=hrel
   by_cases hlt:k < n
   · have hd:decide ((16:Int) * (k:Int) < (m:Int)) = true:=decide_eq_true (by have:=HN.out; omega)
     go_wp2_with fail
     go_round
     case rel => exact ⟨k + 1,by omega,by go_num⟩
     case measure => simp [intOf]; omega
   · obtain rfl:k = n:=by omega
     have hd:decide ((16:Int) * (k:Int) < (m:Int)) = false:=decide_eq_false (by have:=HN.out; omega)
     go_wp2_with fail
     go_ret
     exact ⟨rfl,rfl⟩
set_option maxHeartbeats 4000000 in
theorem counter_yes (key fixed:ByteArray) (m:Nat) (hk:keyOk key) (h1:1 <= m) (h2:m <= 4080) (hf:fixed.size <= 100000) (X:ByteArray) (hX:X = cntK key fixed (m:Int)):Mak 159 #[.string key,.string fixed,.int .i64 (m:Int)] (.tuple #[.string X,.int .i64 0]):=by
 intro w
 have H0:=lH (Since.refl w)
 obtain ⟨n,hn⟩:∃ n,n = (m - 1) / 16 + 1:=⟨_,rfl⟩
 have c2:=rounds_yes m n h1 h2 hn
 have tn:((n:Int) == 0) = false:=by rw [beq_eq_false_iff_ne]; omega
 have hn255:n <= 255:=by omega
 have HN:=lH hn
 have HX:Hid (X = bs ((outL key fixed n).take m)):=lH (by rw [hX,cntK,rndN,if_neg (by omega),hn]; rfl)
 have HK:=lH hk
 unfold keyOk at hk
 have hk3:(decide (key.size = 16) || decide (key.size = 24) || decide (key.size = 32)) = true:=by simpa [or_assoc] using hk
 clear hX hn hk3
 rcases hk with hk | hk | hk
 · have a1:((key.size:Int) != 16) = false:=by rw [bne_eq_false_iff_eq]; omega
   clear hk
   go_enter Tryz.func159,Tryz.ntmps159
   go_wp2_with fail
   refine (c2).calls ?_
   go_wp2_with fail
   go_loopw [8,9] (fun o i wr => ∃ (j:Nat) (O:ByteArray),1 <= j /\ j <= n + 1 /\ i = .int .i64 (j:Int) /\ o = .string O /\ Hid (O = bs (outL key fixed (j - 1))) /\ Hid (Since w wr)) (fun _ i _ => n + 1 - (intOf i).toNat)
   case atStart => exact ⟨1,⟨#[]⟩,by omega,by omega,rfl,rfl,lH rfl,H0⟩
   case round =>
     obtain ⟨j,O,hj1,hj2,rfl,rfl,HO,HS⟩:=hrel
     have hOs:O.size = 16 * (j - 1):=by rw [HO.out,size_bs,outL_len]
     by_cases hlt:j <= n
     · have hd:decide ((j:Int) <= (n:Int)) = true:=decide_eq_true (by omega)
       obtain ⟨k,hk⟩:∃ k,j = k + 1:=⟨j - 1,by omega⟩
       have e1:IntKind.u8.wrap (j:Int) = (j:Int):=IntWalk.u8_in _ (by omega)
       obtain ⟨p,hp⟩:∃ p,p = bs [UInt8.ofNat j]:=⟨_,rfl⟩
       have K1:=RefRnd.conv_any (j:Int) p (by rw [hp]; exact RefRnd.one_num j)
       have hps:p.size = 1:=by rw [hp]; rfl
       have hsz1:¬ 9223372036854775807 < p.size + fixed.size:=by omega
       obtain ⟨J,hJ⟩:∃ J,J = p ++ fixed:=⟨_,rfl⟩
       have hJt:J = tgT fixed k:=by
         rw [hJ,hp,tgT,<- hk]
         apply ba_ext
         rw [app_list,list_bs,list_bs]; rfl
       have hJs:J.size = fixed.size + 1:=by rw [hJt,tgT,size_bs,List.length_cons]; rfl
       obtain ⟨T,hT⟩:∃ T,T = tg key fixed k:=⟨_,rfl⟩
       have hTs:T.size = 16:=by rw [hT]; exact tagK_size _ _
       have c4:=RefCmac.tag_yes key J HK.out (by omega) T (by rw [hT,tg,hJt])
       have hsz2:¬ 9223372036854775807 < O.size + T.size:=by omega
       have hO2:O ++ T = bs (outL key fixed (j + 1 - 1)):=by
         apply ba_ext
         rw [app_list,HO.out,list_bs,list_bs,show j + 1 - 1 = (j - 1) + 1 from by omega,outL_succ,hT,show j - 1 = k from by omega]
       clear hp hps hJt hJs hT hTs hk hOs
       have HO2:=lH hO2
       clear hO2
       have HJ:=lH hJ
       clear hJ
       go_wp2_with fail
       refine (c2).calls ?_
       go_wp2_with fail
       rw [<- HJ.out]
       have HS0:Hid (Since w (wr.alloc (.cells #[.int .u8 (j:Int)] 5))):=lH (Since.alloc HS.out _)
       refine c4.calls HS0.out ?_
       intro w1 h1
       have H1:=lH h1
       clear h1
       go_wp2_with fail
       go_roundw
       case rel => exact ⟨j + 1,_,by omega,by omega,by go_num,rfl,HO2,H1⟩
       case measure => simp [intOf]; omega
     · have hd:decide ((j:Int) <= (n:Int)) = false:=decide_eq_false (by omega)
       have hjn:j - 1 = n:=by omega
       have hX2:O.extract 0 m = X:=by
         apply ba_ext
         rw [ext_list,HO.out,list_bs,HX.out,list_bs,hjn,List.drop_zero,Nat.sub_zero]
       have i1:(m:Int) <= (O.size:Int):=by have:=HN.out; omega
       clear hjn hOs
       have HX2:=lH hX2
       clear hX2
       go_wp2_with fail
       refine (c2).calls ?_
       go_wp2_with fail
       go_ret2
       exact ⟨by rw [<- HX2.out]; rfl,HS.out⟩
 · have a1:((key.size:Int) != 16) = true:=by rw [bne_iff_ne]; omega
   have a2:((key.size:Int) != 24) = false:=by rw [bne_eq_false_iff_eq]; omega
   have b1:((key.size:Int) == 16) = false:=by rw [beq_eq_false_iff_ne]; omega
   have b2:((key.size:Int) == 24) = true:=by rw [beq_iff_eq]; omega
   clear hk
   go_enter Tryz.func159,Tryz.ntmps159
   go_wp2_with fail
   refine (c2).calls ?_
   go_wp2_with fail
   go_loopw [8,9] (fun o i wr => ∃ (j:Nat) (O:ByteArray),1 <= j /\ j <= n + 1 /\ i = .int .i64 (j:Int) /\ o = .string O /\ Hid (O = bs (outL key fixed (j - 1))) /\ Hid (Since w wr)) (fun _ i _ => n + 1 - (intOf i).toNat)
   case atStart => exact ⟨1,⟨#[]⟩,by omega,by omega,rfl,rfl,lH rfl,H0⟩
   case round =>
     obtain ⟨j,O,hj1,hj2,rfl,rfl,HO,HS⟩:=hrel
     have hOs:O.size = 16 * (j - 1):=by rw [HO.out,size_bs,outL_len]
     by_cases hlt:j <= n
     · have hd:decide ((j:Int) <= (n:Int)) = true:=decide_eq_true (by omega)
       obtain ⟨k,hk⟩:∃ k,j = k + 1:=⟨j - 1,by omega⟩
       have e1:IntKind.u8.wrap (j:Int) = (j:Int):=IntWalk.u8_in _ (by omega)
       obtain ⟨p,hp⟩:∃ p,p = bs [UInt8.ofNat j]:=⟨_,rfl⟩
       have K1:=RefRnd.conv_any (j:Int) p (by rw [hp]; exact RefRnd.one_num j)
       have hps:p.size = 1:=by rw [hp]; rfl
       have hsz1:¬ 9223372036854775807 < p.size + fixed.size:=by omega
       obtain ⟨J,hJ⟩:∃ J,J = p ++ fixed:=⟨_,rfl⟩
       have hJt:J = tgT fixed k:=by
         rw [hJ,hp,tgT,<- hk]
         apply ba_ext
         rw [app_list,list_bs,list_bs]; rfl
       have hJs:J.size = fixed.size + 1:=by rw [hJt,tgT,size_bs,List.length_cons]; rfl
       obtain ⟨T,hT⟩:∃ T,T = tg key fixed k:=⟨_,rfl⟩
       have hTs:T.size = 16:=by rw [hT]; exact tagK_size _ _
       have c4:=RefCmac.tag_yes key J HK.out (by omega) T (by rw [hT,tg,hJt])
       have hsz2:¬ 9223372036854775807 < O.size + T.size:=by omega
       have hO2:O ++ T = bs (outL key fixed (j + 1 - 1)):=by
         apply ba_ext
         rw [app_list,HO.out,list_bs,list_bs,show j + 1 - 1 = (j - 1) + 1 from by omega,outL_succ,hT,show j - 1 = k from by omega]
       clear hp hps hJt hJs hT hTs hk hOs
       have HO2:=lH hO2
       clear hO2
       have HJ:=lH hJ
       clear hJ
       go_wp2_with fail
       refine (c2).calls ?_
       go_wp2_with fail
       rw [<- HJ.out]
       have HS0:Hid (Since w (wr.alloc (.cells #[.int .u8 (j:Int)] 5))):=lH (Since.alloc HS.out _)
       refine c4.calls HS0.out ?_
       intro w1 h1
       have H1:=lH h1
       clear h1
       go_wp2_with fail
       go_roundw
       case rel => exact ⟨j + 1,_,by omega,by omega,by go_num,rfl,HO2,H1⟩
       case measure => simp [intOf]; omega
     · have hd:decide ((j:Int) <= (n:Int)) = false:=decide_eq_false (by omega)
       have hjn:j - 1 = n:=by omega
       have hX2:O.extract 0 m = X:=by
         apply ba_ext
         rw [ext_list,HO.out,list_bs,HX.out,list_bs,hjn,List.drop_zero,Nat.sub_zero]
       have i1:(m:Int) <= (O.size:Int):=by have:=HN.out; omega
       clear hjn hOs
       have HX2:=lH hX2
       clear hX2
       go_wp2_with fail
       refine (c2).calls ?_
       go_wp2_with fail
       go_ret2
       exact ⟨by rw [<- HX2.out]; rfl,HS.out⟩
 · have a1:((key.size:Int) != 16) = true:=by rw [bne_iff_ne]; omega
   have a2:((key.size:Int) != 24) = true:=by rw [bne_iff_ne]; omega
   have a3:((key.size:Int) != 32) = false:=by rw [bne_eq_false_iff_eq]; omega
   have b1:((key.size:Int) == 16) = false:=by rw [beq_eq_false_iff_ne]; omega
   have b2:((key.size:Int) == 24) = false:=by rw [beq_eq_false_iff_ne]; omega
   have b3:((key.size:Int) == 32) = true:=by rw [beq_iff_eq]; omega
   clear hk
   go_enter Tryz.func159,Tryz.ntmps159
   go_wp2_with fail
   refine (c2).calls ?_
   go_wp2_with fail
   go_loopw [8,9] (fun o i wr => ∃ (j:Nat) (O:ByteArray),1 <= j /\ j <= n + 1 /\ i = .int .i64 (j:Int) /\ o = .string O /\ Hid (O = bs (outL key fixed (j - 1))) /\ Hid (Since w wr)) (fun _ i _ => n + 1 - (intOf i).toNat)
   case atStart => exact ⟨1,⟨#[]⟩,by omega,by omega,rfl,rfl,lH rfl,H0⟩
   case round =>
     obtain ⟨j,O,hj1,hj2,rfl,rfl,HO,HS⟩:=hrel
     have hOs:O.size = 16 * (j - 1):=by rw [HO.out,size_bs,outL_len]
     by_cases hlt:j <= n
     · have hd:decide ((j:Int) <= (n:Int)) = true:=decide_eq_true (by omega)
       obtain ⟨k,hk⟩:∃ k,j = k + 1:=⟨j - 1,by omega⟩
       have e1:IntKind.u8.wrap (j:Int) = (j:Int):=IntWalk.u8_in _ (by omega)
       obtain ⟨p,hp⟩:∃ p,p = bs [UInt8.ofNat j]:=⟨_,rfl⟩
       have K1:=RefRnd.conv_any (j:Int) p (by rw [hp]; exact RefRnd.one_num j)
       have hps:p.size = 1:=by rw [hp]; rfl
       have hsz1:¬ 9223372036854775807 < p.size + fixed.size:=by omega
       obtain ⟨J,hJ⟩:∃ J,J = p ++ fixed:=⟨_,rfl⟩
       have hJt:J = tgT fixed k:=by
         rw [hJ,hp,tgT,<- hk]
         apply ba_ext
         rw [app_list,list_bs,list_bs]; rfl
       have hJs:J.size = fixed.size + 1:=by rw [hJt,tgT,size_bs,List.length_cons]; rfl
       obtain ⟨T,hT⟩:∃ T,T = tg key fixed k:=⟨_,rfl⟩
       have hTs:T.size = 16:=by rw [hT]; exact tagK_size _ _
       have c4:=RefCmac.tag_yes key J HK.out (by omega) T (by rw [hT,tg,hJt])
       have hsz2:¬ 9223372036854775807 < O.size + T.size:=by omega
       have hO2:O ++ T = bs (outL key fixed (j + 1 - 1)):=by
         apply ba_ext
         rw [app_list,HO.out,list_bs,list_bs,show j + 1 - 1 = (j - 1) + 1 from by omega,outL_succ,hT,show j - 1 = k from by omega]
       clear hp hps hJt hJs hT hTs hk hOs
       have HO2:=lH hO2
       clear hO2
       have HJ:=lH hJ
       clear hJ
       go_wp2_with fail
       refine (c2).calls ?_
       go_wp2_with fail
       rw [<- HJ.out]
       have HS0:Hid (Since w (wr.alloc (.cells #[.int .u8 (j:Int)] 5))):=lH (Since.alloc HS.out _)
       refine c4.calls HS0.out ?_
       intro w1 h1
       have H1:=lH h1
       clear h1
       go_wp2_with fail
       go_roundw
       case rel => exact ⟨j + 1,_,by omega,by omega,by go_num,rfl,HO2,H1⟩
       case measure => simp [intOf]; omega
     · have hd:decide ((j:Int) <= (n:Int)) = false:=decide_eq_false (by omega)
       have hjn:j - 1 = n:=by omega
       have hX2:O.extract 0 m = X:=by
         apply ba_ext
         rw [ext_list,HO.out,list_bs,HX.out,list_bs,hjn,List.drop_zero,Nat.sub_zero]
       have i1:(m:Int) <= (O.size:Int):=by have:=HN.out; omega
       clear hjn hOs
       have HX2:=lH hX2
       clear hX2
       go_wp2_with fail
       refine (c2).calls ?_
       go_wp2_with fail
       go_ret2
       exact ⟨by rw [<- HX2.out]; rfl,HS.out⟩
end RefKdf
namespace Kdf
open Rnd Aes Cmac
end Kdf
namespace Der
open Rnd Aes Cmac Kdf
def inpS (p n:Nat):ByteArray:=⟨#[0,UInt8.ofNat p,0,0,UInt8.ofNat (n / 8),UInt8.ofNat (8 * n / 256),UInt8.ofNat (8 * n % 256)]⟩
def derK (key:ByteArray) (p:Nat):ByteArray:=cntK key (inpS p key.size) (key.size:Int)
theorem derK_size (key:ByteArray) (hk:keyOk key) (p:Nat):(derK key p).size = key.size:=by
 unfold derK cntK keyOk at *
 rw [size_bs,List.length_take,outL_len,Int.toNat_natCast]
 unfold rndN
 rw [if_neg (by omega),Int.toNat_natCast]
 omega
theorem derK_ok (key:ByteArray) (hk:keyOk key) (p:Nat):keyOk (derK key p):=by
 have h:=derK_size key hk p
 unfold keyOk at *
 rw [h]; exact hk
theorem rounds_key (key:ByteArray) (hk:keyOk key):∃ x:Int,(x == 0) = false /\ Ret 23 #[.int .i64 (key.size:Int)] (.int .i64 x):=by
 unfold keyOk at hk
 exact ⟨((key.size / 4 + 6:Nat):Int),by rw [beq_eq_false_iff_ne]; omega,Sched.rounds_yes key.size hk _ rfl⟩
theorem rounds_nokey (key:ByteArray) (hk:¬ keyOk key):Ret 23 #[.int .i64 (key.size:Int)] (.int .i64 0):=by
 unfold keyOk at hk
 exact Sched.rounds_no _ (by omega)
end Der
namespace Der
open Rnd Aes Cmac Kdf
theorem put2_lit (m:Nat) (hm:m < 65536):strOfNums (Oct.putL (m:Int) 2) = ⟨#[UInt8.ofNat (m / 256),UInt8.ofNat (m % 256)]⟩:=by
 have h1:((m:Int) / 256 % 256).toNat = m / 256:=by omega
 have h2:((m:Int) % 256).toNat = m % 256:=by omega
 apply ba_ext
 rw [nums_list]
 show [UInt8.ofNat ((m:Int) / 2 ^ 8 % 256).toNat,UInt8.ofNat ((m:Int) / 2 ^ 0 % 256).toNat] = _
 rw [show ((2:Int) ^ 8) = 256 from rfl,show ((2:Int) ^ 0) = 1 from rfl,Int.ediv_one,h1,h2]
theorem putp (m:Nat) (hm:m < 65536) (X:ByteArray) (hX:X = ⟨#[UInt8.ofNat (m / 256),UInt8.ofNat (m % 256)]⟩):Mak 57 #[.int .u64 (m:Int),.int .i64 2] (.string X):=fun w => by
 rw [hX,<- put2_lit m hm]
 exact Oct.put_mid (m:Int) 2 w (by omega) (by omega) (by decide) (by decide)
theorem sl7 (b k:Nat) (hk:k = 0 ∨ k = 3 ∨ k = 5) (w:World):(Instr.sliceAt 195 (.pointer (some ⟨b,0,none⟩)) (some (.int .i64 (k:Int))) none none).run Tryz.prog w = .ok (.slice (some ⟨b,k,none⟩) (7 - k) (7 - k)) w:=by
 rcases hk with rfl | rfl | rfl <;> kernel_rfl
theorem sl7a (b:Nat) (w:World):(Instr.sliceAt 195 (.pointer (some ⟨b,0,none⟩)) none none none).run Tryz.prog w = .ok (.slice (some ⟨b,0,none⟩) 7 7) w:=by kernel_rfl
def row7 (A B C:ByteArray):Nat -> Value:=putAt (putAt (putAt (fun _ => .int .u8 0) 0 A.data.toList) 3 B.data.toList) 5 C.data.toList
theorem row_since {w w':World} {b t n:Nat} {f:Nat -> Value} (h:w.rowIs b t n f) (hs:Below w.heap.size w w'):w'.rowIs b t n f:=h.of_block (hs.block b h.lt)
set_option maxHeartbeats 400000 in
theorem input_16 (p x:Int) (A B C X:ByteArray) (hA:A.size = 2) (hB:B.size = 2) (hC:C.size = 2) (t1:decide (p < 0) = false) (t2:decide ((1:Int) < p) = false) (hx:(x == 0) = false)
   (c0:Ret 23 #[.int .i64 16] (.int .i64 x)) (e1:IntKind.u64.wrap p = p)
   (c1:Mak 57 #[.int .u64 p,.int .i64 2] (.string A)) (c2:Mak 57 #[.int .u64 2,.int .i64 2] (.string B)) (c3:Mak 57 #[.int .u64 128,.int .i64 2] (.string C))
   (xs:List Int) (hl:xs.length = 7) (hcl:∀ i,i < 7 -> row7 A B C i = .int .u8 (xs.getD i 0)) (hX:X = strOfNums xs) :
   Mak 151 #[.int .i64 p,.int .i64 16] (.string X):=by
 intro w
 obtain ⟨W,hW⟩:∃ W,W = w.alloc (.cells #[.int .u8 0,.int .u8 0,.int .u8 0,.int .u8 0,.int .u8 0,.int .u8 0,.int .u8 0] 195):=⟨_,rfl⟩
 have hs0:Since w W:=by rw [hW]; exact (Since.refl w).alloc _
 have hr0:W.rowIs w.heap.size 195 7 (fun _ => .int .u8 0):=by
   rw [hW]
   exact World.rowIs_alloc w _ _ (fun _ => .int .u8 0) (fun i hi => by
     match i,hi with
     | 0,_ | 1,_ | 2,_ | 3,_ | 4,_ | 5,_ | 6,_ => rfl
     | n + 7,hi => simp at hi; omega)
 have HR0:=lH hr0
 have HS:=lH hs0
 have s0:∀ W,(Instr.sliceAt 195 (.pointer (some ⟨w.heap.size,0,none⟩)) (some (.int .i64 0)) none none).run Tryz.prog W = .ok (.slice (some ⟨w.heap.size,0,none⟩) 7 7) W:=sl7 w.heap.size 0 (by decide)
 have s3:∀ W,(Instr.sliceAt 195 (.pointer (some ⟨w.heap.size,0,none⟩)) (some (.int .i64 3)) none none).run Tryz.prog W = .ok (.slice (some ⟨w.heap.size,3,none⟩) 4 4) W:=sl7 w.heap.size 3 (by decide)
 have s5:∀ W,(Instr.sliceAt 195 (.pointer (some ⟨w.heap.size,0,none⟩)) (some (.int .i64 5)) none none).run Tryz.prog W = .ok (.slice (some ⟨w.heap.size,5,none⟩) 2 2) W:=sl7 w.heap.size 5 (by decide)
 have sa:=sl7a w.heap.size
 have HX:=lH hX
 have HL:=lH hl
 have HC:=lH hcl
 have HAs:=lH hA
 have HBs:=lH hB
 have HCs:=lH hC
 clear hs0 hr0 hX hl hcl
 go_enter Tryz.func151,Tryz.ntmps151
 go_wp2_with fail
 refine (c0).calls ?_
 go_wp2_with fail
 rw [<- hW]
 clear hW
 go_region_law (first
   | (go_simp; go_at_call 57; refine (c1 _).mono ?_; rintro e w1 ⟨rfl,hc⟩; have hr:=row_since HR0.out.drew hc; have hs:=(Since.drew HS.out).step hc; obtain ⟨w2,hrun,hrow,hbel⟩:=run_copy_str w1 A w.heap.size 195 0 7 7 7 3 _ (some ⟨w.heap.size,0,none⟩) hr (fun _ => rfl) (by have:=HAs.out; omega) (by have:=HAs.out; omega)))
 have HR1:=lH hrow
 replace HS:=lH (hbel w.heap.size w hs (Nat.le_refl _))
 clear hc hr hs hrow hbel hrun
 go_wp2_with fail
 go_region_law (first
   | (go_simp; go_at_call 57; refine (c2 _).mono ?_; rintro e w3 ⟨rfl,hc⟩; have hr:=row_since HR1.out.drew hc; have hs:=(Since.drew HS.out).step hc; obtain ⟨w4,hrun,hrow,hbel⟩:=run_copy_str w3 B w.heap.size 195 3 7 4 4 3 _ (some ⟨w.heap.size,3,none⟩) hr (fun _ => rfl) (by have:=HBs.out; omega) (by have:=HBs.out; omega)))
 have HR2:=lH hrow
 replace HS:=lH (hbel w.heap.size w hs (Nat.le_refl _))
 clear hc hr hs hrow hbel hrun
 go_wp2_with fail
 go_region_law (first
   | (go_simp; go_at_call 57; refine (c3 _).mono ?_; rintro e w5 ⟨rfl,hc⟩; have hr:=row_since HR2.out.drew hc; have hs:=(Since.drew HS.out).step hc; obtain ⟨w6,hrun,hrow,hbel⟩:=run_copy_str w5 C w.heap.size 195 5 7 2 2 3 _ (some ⟨w.heap.size,5,none⟩) hr (fun _ => rfl) (by have:=HCs.out; omega) (by have:=HCs.out; omega)))
 have HR3:=lH hrow
 replace HS:=lH (hbel w.heap.size w hs (Nat.le_refl _))
 clear hc hr hs hrow hbel hrun
 go_wp2_with fail
 have g:=run_convert_bytes_arg (P:=Tryz.prog) w6 114 5 Tryz.underlying114 Tryz.underlying5 w.heap.size 0 7 7 xs HL.out (fun i hi => by
   rw [Nat.zero_add,HR3.out.cell hi,<- HC.out i hi]; rfl) 9 Tryz.underlying9
 rw [<- HX.out] at g
 go_wp2_with fail
 rw [g]
 go_simp
 go_wp2_with fail
 go_ret
 exact ⟨rfl,HS.out⟩
set_option maxHeartbeats 400000 in
theorem input_24 (p x:Int) (A B C X:ByteArray) (hA:A.size = 2) (hB:B.size = 2) (hC:C.size = 2) (t1:decide (p < 0) = false) (t2:decide ((1:Int) < p) = false) (hx:(x == 0) = false)
   (c0:Ret 23 #[.int .i64 24] (.int .i64 x)) (e1:IntKind.u64.wrap p = p)
   (c1:Mak 57 #[.int .u64 p,.int .i64 2] (.string A)) (c2:Mak 57 #[.int .u64 3,.int .i64 2] (.string B)) (c3:Mak 57 #[.int .u64 192,.int .i64 2] (.string C))
   (xs:List Int) (hl:xs.length = 7) (hcl:∀ i,i < 7 -> row7 A B C i = .int .u8 (xs.getD i 0)) (hX:X = strOfNums xs) :
   Mak 151 #[.int .i64 p,.int .i64 24] (.string X):=by
 intro w
 obtain ⟨W,hW⟩:∃ W,W = w.alloc (.cells #[.int .u8 0,.int .u8 0,.int .u8 0,.int .u8 0,.int .u8 0,.int .u8 0,.int .u8 0] 195):=⟨_,rfl⟩
 have hs0:Since w W:=by rw [hW]; exact (Since.refl w).alloc _
 have hr0:W.rowIs w.heap.size 195 7 (fun _ => .int .u8 0):=by
   rw [hW]
   exact World.rowIs_alloc w _ _ (fun _ => .int .u8 0) (fun i hi => by
     match i,hi with
     | 0,_ | 1,_ | 2,_ | 3,_ | 4,_ | 5,_ | 6,_ => rfl
     | n + 7,hi => simp at hi; omega)
 have HR0:=lH hr0
 have HS:=lH hs0
 have s0:∀ W,(Instr.sliceAt 195 (.pointer (some ⟨w.heap.size,0,none⟩)) (some (.int .i64 0)) none none).run Tryz.prog W = .ok (.slice (some ⟨w.heap.size,0,none⟩) 7 7) W:=sl7 w.heap.size 0 (by decide)
 have s3:∀ W,(Instr.sliceAt 195 (.pointer (some ⟨w.heap.size,0,none⟩)) (some (.int .i64 3)) none none).run Tryz.prog W = .ok (.slice (some ⟨w.heap.size,3,none⟩) 4 4) W:=sl7 w.heap.size 3 (by decide)
 have s5:∀ W,(Instr.sliceAt 195 (.pointer (some ⟨w.heap.size,0,none⟩)) (some (.int .i64 5)) none none).run Tryz.prog W = .ok (.slice (some ⟨w.heap.size,5,none⟩) 2 2) W:=sl7 w.heap.size 5 (by decide)
 have sa:=sl7a w.heap.size
 have HX:=lH hX
 have HL:=lH hl
 have HC:=lH hcl
 have HAs:=lH hA
 have HBs:=lH hB
 have HCs:=lH hC
 clear hs0 hr0 hX hl hcl
 go_enter Tryz.func151,Tryz.ntmps151
 go_wp2_with fail
 refine (c0).calls ?_
 go_wp2_with fail
 rw [<- hW]
 clear hW
 go_region_law (first
   | (go_simp; go_at_call 57; refine (c1 _).mono ?_; rintro e w1 ⟨rfl,hc⟩; have hr:=row_since HR0.out.drew hc; have hs:=(Since.drew HS.out).step hc; obtain ⟨w2,hrun,hrow,hbel⟩:=run_copy_str w1 A w.heap.size 195 0 7 7 7 3 _ (some ⟨w.heap.size,0,none⟩) hr (fun _ => rfl) (by have:=HAs.out; omega) (by have:=HAs.out; omega)))
 have HR1:=lH hrow
 replace HS:=lH (hbel w.heap.size w hs (Nat.le_refl _))
 clear hc hr hs hrow hbel hrun
 go_wp2_with fail
 go_region_law (first
   | (go_simp; go_at_call 57; refine (c2 _).mono ?_; rintro e w3 ⟨rfl,hc⟩; have hr:=row_since HR1.out.drew hc; have hs:=(Since.drew HS.out).step hc; obtain ⟨w4,hrun,hrow,hbel⟩:=run_copy_str w3 B w.heap.size 195 3 7 4 4 3 _ (some ⟨w.heap.size,3,none⟩) hr (fun _ => rfl) (by have:=HBs.out; omega) (by have:=HBs.out; omega)))
 have HR2:=lH hrow
 replace HS:=lH (hbel w.heap.size w hs (Nat.le_refl _))
 clear hc hr hs hrow hbel hrun
 go_wp2_with fail
 go_region_law (first
   | (go_simp; go_at_call 57; refine (c3 _).mono ?_; rintro e w5 ⟨rfl,hc⟩; have hr:=row_since HR2.out.drew hc; have hs:=(Since.drew HS.out).step hc; obtain ⟨w6,hrun,hrow,hbel⟩:=run_copy_str w5 C w.heap.size 195 5 7 2 2 3 _ (some ⟨w.heap.size,5,none⟩) hr (fun _ => rfl) (by have:=HCs.out; omega) (by have:=HCs.out; omega)))
 have HR3:=lH hrow
 replace HS:=lH (hbel w.heap.size w hs (Nat.le_refl _))
 clear hc hr hs hrow hbel hrun
 go_wp2_with fail
 have g:=run_convert_bytes_arg (P:=Tryz.prog) w6 114 5 Tryz.underlying114 Tryz.underlying5 w.heap.size 0 7 7 xs HL.out (fun i hi => by
   rw [Nat.zero_add,HR3.out.cell hi,<- HC.out i hi]; rfl) 9 Tryz.underlying9
 rw [<- HX.out] at g
 go_wp2_with fail
 rw [g]
 go_simp
 go_wp2_with fail
 go_ret
 exact ⟨rfl,HS.out⟩
set_option maxHeartbeats 400000 in
theorem input_32 (p x:Int) (A B C X:ByteArray) (hA:A.size = 2) (hB:B.size = 2) (hC:C.size = 2) (t1:decide (p < 0) = false) (t2:decide ((1:Int) < p) = false) (hx:(x == 0) = false)
   (c0:Ret 23 #[.int .i64 32] (.int .i64 x)) (e1:IntKind.u64.wrap p = p)
   (c1:Mak 57 #[.int .u64 p,.int .i64 2] (.string A)) (c2:Mak 57 #[.int .u64 4,.int .i64 2] (.string B)) (c3:Mak 57 #[.int .u64 256,.int .i64 2] (.string C))
   (xs:List Int) (hl:xs.length = 7) (hcl:∀ i,i < 7 -> row7 A B C i = .int .u8 (xs.getD i 0)) (hX:X = strOfNums xs) :
   Mak 151 #[.int .i64 p,.int .i64 32] (.string X):=by
 intro w
 obtain ⟨W,hW⟩:∃ W,W = w.alloc (.cells #[.int .u8 0,.int .u8 0,.int .u8 0,.int .u8 0,.int .u8 0,.int .u8 0,.int .u8 0] 195):=⟨_,rfl⟩
 have hs0:Since w W:=by rw [hW]; exact (Since.refl w).alloc _
 have hr0:W.rowIs w.heap.size 195 7 (fun _ => .int .u8 0):=by
   rw [hW]
   exact World.rowIs_alloc w _ _ (fun _ => .int .u8 0) (fun i hi => by
     match i,hi with
     | 0,_ | 1,_ | 2,_ | 3,_ | 4,_ | 5,_ | 6,_ => rfl
     | n + 7,hi => simp at hi; omega)
 have HR0:=lH hr0
 have HS:=lH hs0
 have s0:∀ W,(Instr.sliceAt 195 (.pointer (some ⟨w.heap.size,0,none⟩)) (some (.int .i64 0)) none none).run Tryz.prog W = .ok (.slice (some ⟨w.heap.size,0,none⟩) 7 7) W:=sl7 w.heap.size 0 (by decide)
 have s3:∀ W,(Instr.sliceAt 195 (.pointer (some ⟨w.heap.size,0,none⟩)) (some (.int .i64 3)) none none).run Tryz.prog W = .ok (.slice (some ⟨w.heap.size,3,none⟩) 4 4) W:=sl7 w.heap.size 3 (by decide)
 have s5:∀ W,(Instr.sliceAt 195 (.pointer (some ⟨w.heap.size,0,none⟩)) (some (.int .i64 5)) none none).run Tryz.prog W = .ok (.slice (some ⟨w.heap.size,5,none⟩) 2 2) W:=sl7 w.heap.size 5 (by decide)
 have sa:=sl7a w.heap.size
 have HX:=lH hX
 have HL:=lH hl
 have HC:=lH hcl
 have HAs:=lH hA
 have HBs:=lH hB
 have HCs:=lH hC
 clear hs0 hr0 hX hl hcl
 go_enter Tryz.func151,Tryz.ntmps151
 go_wp2_with fail
 refine (c0).calls ?_
 go_wp2_with fail
 rw [<- hW]
 clear hW
 go_region_law (first
   | (go_simp; go_at_call 57; refine (c1 _).mono ?_; rintro e w1 ⟨rfl,hc⟩; have hr:=row_since HR0.out.drew hc; have hs:=(Since.drew HS.out).step hc; obtain ⟨w2,hrun,hrow,hbel⟩:=run_copy_str w1 A w.heap.size 195 0 7 7 7 3 _ (some ⟨w.heap.size,0,none⟩) hr (fun _ => rfl) (by have:=HAs.out; omega) (by have:=HAs.out; omega)))
 have HR1:=lH hrow
 replace HS:=lH (hbel w.heap.size w hs (Nat.le_refl _))
 clear hc hr hs hrow hbel hrun
 go_wp2_with fail
 go_region_law (first
   | (go_simp; go_at_call 57; refine (c2 _).mono ?_; rintro e w3 ⟨rfl,hc⟩; have hr:=row_since HR1.out.drew hc; have hs:=(Since.drew HS.out).step hc; obtain ⟨w4,hrun,hrow,hbel⟩:=run_copy_str w3 B w.heap.size 195 3 7 4 4 3 _ (some ⟨w.heap.size,3,none⟩) hr (fun _ => rfl) (by have:=HBs.out; omega) (by have:=HBs.out; omega)))
 have HR2:=lH hrow
 replace HS:=lH (hbel w.heap.size w hs (Nat.le_refl _))
 clear hc hr hs hrow hbel hrun
 go_wp2_with fail
 go_region_law (first
   | (go_simp; go_at_call 57; refine (c3 _).mono ?_; rintro e w5 ⟨rfl,hc⟩; have hr:=row_since HR2.out.drew hc; have hs:=(Since.drew HS.out).step hc; obtain ⟨w6,hrun,hrow,hbel⟩:=run_copy_str w5 C w.heap.size 195 5 7 2 2 3 _ (some ⟨w.heap.size,5,none⟩) hr (fun _ => rfl) (by have:=HCs.out; omega) (by have:=HCs.out; omega)))
 have HR3:=lH hrow
 replace HS:=lH (hbel w.heap.size w hs (Nat.le_refl _))
 clear hc hr hs hrow hbel hrun
 go_wp2_with fail
 have g:=run_convert_bytes_arg (P:=Tryz.prog) w6 114 5 Tryz.underlying114 Tryz.underlying5 w.heap.size 0 7 7 xs HL.out (fun i hi => by
   rw [Nat.zero_add,HR3.out.cell hi,<- HC.out i hi]; rfl) 9 Tryz.underlying9
 rw [<- HX.out] at g
 go_wp2_with fail
 rw [g]
 go_simp
 go_wp2_with fail
 go_ret
 exact ⟨rfl,HS.out⟩
theorem input_yes (p n:Nat) (hp:p <= 1) (hn:n = 16 ∨ n = 24 ∨ n = 32) (X:ByteArray) (hX:X = inpS p n):Mak 151 #[.int .i64 (p:Int),.int .i64 (n:Int)] (.string X):=by
 have t1:decide ((p:Int) < 0) = false:=decide_eq_false (by omega)
 have t2:decide ((1:Int) < (p:Int)) = false:=decide_eq_false (by omega)
 have e1:IntKind.u64.wrap (p:Int) = (p:Int):=IntWalk.u64_in _ (by omega)
 obtain ⟨A,hA⟩:∃ A:ByteArray,A = ⟨#[0,UInt8.ofNat p]⟩:=⟨_,rfl⟩
 have c1:=putp p (by omega) A (by rw [hA]; rcases (show p = 0 ∨ p = 1 by omega) with rfl | rfl <;> rfl)
 have hxx:(((n / 4 + 6:Nat):Int) == 0) = false:=by rw [beq_eq_false_iff_ne]; omega
 have c0:=Sched.rounds_yes n hn _ rfl
 have hX2:X = strOfNums [0,(p:Int),0,0,((n / 8:Nat):Int),((8 * n / 256:Nat):Int),((8 * n % 256:Nat):Int)]:=by
   rw [hX]
   rcases hn with rfl | rfl | rfl <;> rcases (show p = 0 ∨ p = 1 by omega) with rfl | rfl <;> rfl
 rcases hn with rfl | rfl | rfl
 · refine input_16 (p:Int) _ A ⟨#[0,2]⟩ ⟨#[0,128]⟩ X (by rw [hA]; rfl) rfl rfl t1 t2 hxx c0 e1 c1 (putp 2 (by decide) _ rfl) (putp 128 (by decide) _ rfl) _ rfl ?_ hX2
   rw [hA]
   intro i hi
   rcases (show p = 0 ∨ p = 1 by omega) with rfl | rfl <;> rcases (show i = 0 ∨ i = 1 ∨ i = 2 ∨ i = 3 ∨ i = 4 ∨ i = 5 ∨ i = 6 by omega) with rfl | rfl | rfl | rfl | rfl | rfl | rfl <;> rfl
 · refine input_24 (p:Int) _ A ⟨#[0,3]⟩ ⟨#[0,192]⟩ X (by rw [hA]; rfl) rfl rfl t1 t2 hxx c0 e1 c1 (putp 3 (by decide) _ rfl) (putp 192 (by decide) _ rfl) _ rfl ?_ hX2
   rw [hA]
   intro i hi
   rcases (show p = 0 ∨ p = 1 by omega) with rfl | rfl <;> rcases (show i = 0 ∨ i = 1 ∨ i = 2 ∨ i = 3 ∨ i = 4 ∨ i = 5 ∨ i = 6 by omega) with rfl | rfl | rfl | rfl | rfl | rfl | rfl <;> rfl
 · refine input_32 (p:Int) _ A ⟨#[0,4]⟩ ⟨#[1,0]⟩ X (by rw [hA]; rfl) rfl rfl t1 t2 hxx c0 e1 c1 (putp 4 (by decide) _ rfl) (putp 256 (by decide) _ rfl) _ rfl ?_ hX2
   rw [hA]
   intro i hi
   rcases (show p = 0 ∨ p = 1 by omega) with rfl | rfl <;> rcases (show i = 0 ∨ i = 1 ∨ i = 2 ∨ i = 3 ∨ i = 4 ∨ i = 5 ∨ i = 6 by omega) with rfl | rfl | rfl | rfl | rfl | rfl | rfl <;> rfl
end Der
namespace Der
open Rnd Aes Cmac Kdf
theorem key_nokey (key:ByteArray) (p:Int) (hk:¬ keyOk key):Ret 102 #[.string key,.int .i64 p] (.tuple #[.string ⟨#[]⟩,.int .i64 2]):=by
 intro w
 have c1:=rounds_nokey key hk
 clear hk
 go_enter Tryz.func102,Tryz.ntmps102
 go_wp2_with fail
 refine (c1).calls ?_
 go_wp2_with fail
 go_ret2
 exact ⟨rfl,rfl⟩
theorem key_yes (key:ByteArray) (p:Nat) (hk:keyOk key) (hp:p <= 1) (X:ByteArray) (hX:X = derK key p):Mak 102 #[.string key,.int .i64 (p:Int)] (.tuple #[.string X,.int .i64 0]):=by
 intro w
 have H0:=lH (Since.refl w)
 obtain ⟨x,hx,c1⟩:=rounds_key key hk
 obtain ⟨I,hI⟩:∃ I,I = inpS p key.size:=⟨_,rfl⟩
 have c2:=input_yes p key.size hp (by unfold keyOk at hk; exact hk) I hI
 have hIs:I.size = 7:=by rw [hI]; rfl
 have b1:=some_bytes I (by omega)
 have b2:=some_bytes_f I (by omega)
 have c3:=Kdf.counter_yes key I key.size hk (by unfold keyOk at hk; omega) (by unfold keyOk at hk; omega) (by omega) X (by rw [hX,derK,hI])
 clear hk hp hX hI hIs
 go_enter Tryz.func102,Tryz.ntmps102
 go_wp2_with fail
 refine (c1).calls ?_
 go_wp2_with fail
 refine c2.calls H0.out ?_
 intro w1 h1
 have H1:=lH h1
 clear h1
 go_wp2_with fail
 refine c3.calls H1.out ?_
 intro w2 h2
 have H2:=lH h2
 clear h2
 go_wp2_with fail
 go_ret2
 exact ⟨rfl,H2.out⟩
theorem keys_nokey (key:ByteArray) (hk:¬ keyOk key):Ret 59 #[.string key] (.tuple #[.string ⟨#[]⟩,.string ⟨#[]⟩,.int .i64 2]):=by
 intro w
 have c1:=key_nokey key 0 hk
 clear hk
 go_enter Tryz.func59,Tryz.ntmps59
 go_wp2_with fail
 refine (c1).calls ?_
 go_wp2_with fail
 go_ret3
 exact ⟨rfl,rfl⟩
theorem keys_yes (key:ByteArray) (hk:keyOk key) (X Y:ByteArray) (hX:X = derK key 0) (hY:Y = derK key 1):Mak 59 #[.string key] (.tuple #[.string X,.string Y,.int .i64 0]):=by
 intro w
 have H0:=lH (Since.refl w)
 have c1:=key_yes key 0 hk (by decide) X hX
 have c2:=key_yes key 1 hk (by decide) Y hY
 clear hk hX hY
 go_enter Tryz.func59,Tryz.ntmps59
 go_wp2_with fail
 refine c1.calls H0.out ?_
 intro w1 h1
 have H1:=lH h1
 clear h1
 go_wp2_with fail
 refine c2.calls H1.out ?_
 intro w2 h2
 have H2:=lH h2
 clear h2
 go_wp2_with fail
 go_ret3
 exact ⟨rfl,H2.out⟩
end Der
namespace RefDer
open Rnd Aes Cmac Kdf Der
theorem put2 (m:Nat) (hm:m < 65536) (X:ByteArray) (hX:X = ⟨#[UInt8.ofNat (m / 256),UInt8.ofNat (m % 256)]⟩):Mak 62 #[.int .u64 (m:Int),.int .i64 2] (.string X):=fun w => by
 have h:=RefOct.put_mid (m:Int) 2 w (by omega) (by omega) (by decide) (by decide)
 rw [hX]
 have he:strOfNums (Oct.putL (m:Int) 2) = ⟨#[UInt8.ofNat (m / 256),UInt8.ofNat (m % 256)]⟩:=put2_lit m hm
 rw [<- he,RefOct.put_same _ 2 (by decide)]; exact h
theorem input_16 (p:Int) (A B C D E X:ByteArray) (t1:decide (p < 0) = false) (t2:decide ((1:Int) < p) = false) (e1:IntKind.u64.wrap p = p)
   (c1:Mak 62 #[.int .u64 p,.int .i64 2] (.string A)) (c2:Mak 62 #[.int .u64 2,.int .i64 2] (.string B)) (c3:Mak 62 #[.int .u64 128,.int .i64 2] (.string C))
   (f1:A ++ ⟨#[0]⟩ = D) (f2:D ++ B = E) (f3:E ++ C = X) (z1:¬ 9223372036854775807 < A.size + 1) (z2:¬ 9223372036854775807 < D.size + B.size) (z3:¬ 9223372036854775807 < E.size + C.size) :
   Mak 160 #[.int .i64 p,.int .i64 16] (.string X):=by
 intro w
 have H0:=lH (Since.refl w)
 go_enter Tryz.func160,Tryz.ntmps160
 go_wp2_with fail
 refine c1.calls H0.out ?_
 intro w1 h1
 have H1:=lH h1
 clear h1
 go_wp2_with fail
 refine c2.calls H1.out ?_
 intro w2 h2
 have H2:=lH h2
 clear h2
 go_wp2_with fail
 refine c3.calls H2.out ?_
 intro w3 h3
 have H3:=lH h3
 clear h3
 go_wp2_with fail
 go_ret
 exact ⟨rfl,H3.out⟩
theorem input_24 (p:Int) (A B C D E X:ByteArray) (t1:decide (p < 0) = false) (t2:decide ((1:Int) < p) = false) (e1:IntKind.u64.wrap p = p)
   (c1:Mak 62 #[.int .u64 p,.int .i64 2] (.string A)) (c2:Mak 62 #[.int .u64 3,.int .i64 2] (.string B)) (c3:Mak 62 #[.int .u64 192,.int .i64 2] (.string C))
   (f1:A ++ ⟨#[0]⟩ = D) (f2:D ++ B = E) (f3:E ++ C = X) (z1:¬ 9223372036854775807 < A.size + 1) (z2:¬ 9223372036854775807 < D.size + B.size) (z3:¬ 9223372036854775807 < E.size + C.size) :
   Mak 160 #[.int .i64 p,.int .i64 24] (.string X):=by
 intro w
 have H0:=lH (Since.refl w)
 go_enter Tryz.func160,Tryz.ntmps160
 go_wp2_with fail
 refine c1.calls H0.out ?_
 intro w1 h1
 have H1:=lH h1
 clear h1
 go_wp2_with fail
 refine c2.calls H1.out ?_
 intro w2 h2
 have H2:=lH h2
 clear h2
 go_wp2_with fail
 refine c3.calls H2.out ?_
 intro w3 h3
 have H3:=lH h3
 clear h3
 go_wp2_with fail
 go_ret
 exact ⟨rfl,H3.out⟩
theorem input_32 (p:Int) (A B C D E X:ByteArray) (t1:decide (p < 0) = false) (t2:decide ((1:Int) < p) = false) (e1:IntKind.u64.wrap p = p)
   (c1:Mak 62 #[.int .u64 p,.int .i64 2] (.string A)) (c2:Mak 62 #[.int .u64 4,.int .i64 2] (.string B)) (c3:Mak 62 #[.int .u64 256,.int .i64 2] (.string C))
   (f1:A ++ ⟨#[0]⟩ = D) (f2:D ++ B = E) (f3:E ++ C = X) (z1:¬ 9223372036854775807 < A.size + 1) (z2:¬ 9223372036854775807 < D.size + B.size) (z3:¬ 9223372036854775807 < E.size + C.size) :
   Mak 160 #[.int .i64 p,.int .i64 32] (.string X):=by
 intro w
 have H0:=lH (Since.refl w)
 go_enter Tryz.func160,Tryz.ntmps160
 go_wp2_with fail
 refine c1.calls H0.out ?_
 intro w1 h1
 have H1:=lH h1
 clear h1
 go_wp2_with fail
 refine c2.calls H1.out ?_
 intro w2 h2
 have H2:=lH h2
 clear h2
 go_wp2_with fail
 refine c3.calls H2.out ?_
 intro w3 h3
 have H3:=lH h3
 clear h3
 go_wp2_with fail
 go_ret
 exact ⟨rfl,H3.out⟩
theorem input_yes (p n:Nat) (hp:p <= 1) (hn:n = 16 ∨ n = 24 ∨ n = 32) (X:ByteArray) (hX:X = inpS p n):Mak 160 #[.int .i64 (p:Int),.int .i64 (n:Int)] (.string X):=by
 have t1:decide ((p:Int) < 0) = false:=decide_eq_false (by omega)
 have t2:decide ((1:Int) < (p:Int)) = false:=decide_eq_false (by omega)
 have e1:IntKind.u64.wrap (p:Int) = (p:Int):=IntWalk.u64_in _ (by omega)
 obtain ⟨A,hA⟩:∃ A:ByteArray,A = ⟨#[0,UInt8.ofNat p]⟩:=⟨_,rfl⟩
 have c1:=put2 p (by omega) A (by rw [hA]; rcases (show p = 0 ∨ p = 1 by omega) with rfl | rfl <;> rfl)
 have hAs:A.size = 2:=by rw [hA]; rfl
 subst hX
 have q:∀ B C:ByteArray,B.size = 2 -> C.size = 2 -> ¬ 9223372036854775807 < A.size + 1 /\ ¬ 9223372036854775807 < (A ++ ⟨#[0]⟩).size + B.size /\ ¬ 9223372036854775807 < (A ++ ⟨#[0]⟩ ++ B).size + C.size:=by
   intro B C hB hC
   rw [ByteArray.size_append,ByteArray.size_append,ByteArray.size_append,hAs,hB,hC]
   decide
 rcases hn with rfl | rfl | rfl
 · obtain ⟨z1,z2,z3⟩:=q ⟨#[0,2]⟩ ⟨#[0,128]⟩ rfl rfl
   exact input_16 (p:Int) A _ _ _ _ _ t1 t2 e1 c1 (put2 2 (by decide) _ rfl) (put2 128 (by decide) _ rfl) rfl rfl (by rw [hA]; rfl) z1 z2 z3
 · obtain ⟨z1,z2,z3⟩:=q ⟨#[0,3]⟩ ⟨#[0,192]⟩ rfl rfl
   exact input_24 (p:Int) A _ _ _ _ _ t1 t2 e1 c1 (put2 3 (by decide) _ rfl) (put2 192 (by decide) _ rfl) rfl rfl (by rw [hA]; rfl) z1 z2 z3
 · obtain ⟨z1,z2,z3⟩:=q ⟨#[0,4]⟩ ⟨#[1,0]⟩ rfl rfl
   exact input_32 (p:Int) A _ _ _ _ _ t1 t2 e1 c1 (put2 4 (by decide) _ rfl) (put2 256 (by decide) _ rfl) rfl rfl (by rw [hA]; rfl) z1 z2 z3
theorem key_nokey (key:ByteArray) (p:Int) (_hm:key.size <= 1000000) (hk:¬ keyOk key):Ret 111 #[.string key,.int .i64 p] (.tuple #[.string ⟨#[]⟩,.int .i64 2]):=by
 intro w
 unfold keyOk at hk
 have a1:((key.size:Int) != 16) = true:=by rw [bne_iff_ne]; omega
 have a2:((key.size:Int) != 24) = true:=by rw [bne_iff_ne]; omega
 have a3:((key.size:Int) != 32) = true:=by rw [bne_iff_ne]; omega
 have b1:((key.size:Int) == 16) = false:=by rw [beq_eq_false_iff_ne]; omega
 have b2:((key.size:Int) == 24) = false:=by rw [beq_eq_false_iff_ne]; omega
 have b3:((key.size:Int) == 32) = false:=by rw [beq_eq_false_iff_ne]; omega
 clear hk
 go_enter Tryz.func111,Tryz.ntmps111
 go_wp2_with fail
 go_ret2
 exact ⟨rfl,rfl⟩
theorem key_yes (key:ByteArray) (p:Nat) (hk:keyOk key) (hp:p <= 1) (X:ByteArray) (hX:X = derK key p):Mak 111 #[.string key,.int .i64 (p:Int)] (.tuple #[.string X,.int .i64 0]):=by
 intro w
 have H0:=lH (Since.refl w)
 obtain ⟨I,hI⟩:∃ I,I = inpS p key.size:=⟨_,rfl⟩
 have t1:decide ((p:Int) < 0) = false:=decide_eq_false (by omega)
 have t2:decide ((1:Int) < (p:Int)) = false:=decide_eq_false (by omega)
 have c2:=input_yes p key.size hp (by unfold keyOk at hk; exact hk) I hI
 have hIs:I.size = 7:=by rw [hI]; rfl
 have c3:=RefKdf.counter_yes key I key.size hk (by unfold keyOk at hk; omega) (by unfold keyOk at hk; omega) (by omega) X (by rw [hX,derK,hI])
 unfold keyOk at hk
 clear hp hX hI hIs
 rcases hk with hk | hk | hk
 all_goals
   have hki:(key.size:Int) = _:=congrArg (fun n:Nat => (n:Int)) hk
   rw [hki] at c2 c3
   clear hk
   go_enter Tryz.func111,Tryz.ntmps111
   go_wp2_with fail
   refine c2.calls H0.out ?_
   intro w1 h1
   have H1:=lH h1
   clear h1
   go_wp2_with fail
   refine c3.calls H1.out ?_
   intro w2 h2
   have H2:=lH h2
   clear h2
   go_wp2_with fail
   go_ret2
   exact ⟨rfl,H2.out⟩
theorem keys_nokey (key:ByteArray) (hm:key.size <= 1000000) (hk:¬ keyOk key):Ret 68 #[.string key] (.tuple #[.string ⟨#[]⟩,.string ⟨#[]⟩,.int .i64 2]):=by
 intro w
 have c1:=key_nokey key 0 hm hk
 have c2:=key_nokey key 1 hm hk
 clear hk
 go_enter Tryz.func68,Tryz.ntmps68
 go_wp2_with fail
 refine (c1).calls ?_
 go_wp2_with fail
 refine (c2).calls ?_
 go_wp2_with fail
 go_ret3
 exact ⟨rfl,rfl⟩
theorem keys_yes (key:ByteArray) (hk:keyOk key) (X Y:ByteArray) (hX:X = derK key 0) (hY:Y = derK key 1):Mak 68 #[.string key] (.tuple #[.string X,.string Y,.int .i64 0]):=by
 intro w
 have H0:=lH (Since.refl w)
 have c1:=key_yes key 0 hk (by decide) X hX
 have c2:=key_yes key 1 hk (by decide) Y hY
 clear hk hX hY
 go_enter Tryz.func68,Tryz.ntmps68
 go_wp2_with fail
 refine c1.calls H0.out ?_
 intro w1 h1
 have H1:=lH h1
 clear h1
 go_wp2_with fail
 refine c2.calls H1.out ?_
 intro w2 h2
 have H2:=lH h2
 clear h2
 go_wp2_with fail
 go_ret3
 exact ⟨rfl,H2.out⟩
end RefDer
namespace RefCbc
open Rnd Aes RefAes Cbc
theorem bad_key (key iv s:ByteArray) (hk:keyOk key) (e:Int) (he:iv.size ≠ 16 /\ e = 1 ∨ iv.size = 16 /\ s.size % 16 ≠ 0 /\ e = 4 ∨ iv.size = 16 /\ s.size % 16 = 0 /\ e = 0) (hm:s.size <= 140737488355328):Ret 112 #[.string key,.string iv,.string s] (.int .i64 e):=by
 intro w
 unfold keyOk at hk
 obtain ⟨t1,ht1⟩:∃ t,((iv.size:Int) == 16) = t:=⟨_,rfl⟩
 obtain ⟨t2,ht2⟩:∃ t,((s.size:Int) % 16 == 0) = t:=⟨_,rfl⟩
 have n1:((iv.size:Int) != 16) = !t1:=by rw [<- ht1]; rfl
 have n2:((s.size:Int) % 16 != 0) = !t2:=by rw [<- ht2]; rfl
 have hv:t1 = false /\ e = 1 ∨ t1 = true /\ t2 = false /\ e = 4 ∨ t1 = true /\ t2 = true /\ e = 0:=by
   rcases he with ⟨h,h2⟩ | ⟨h,h1,h2⟩ | ⟨h,h1,h2⟩
   · exact Or.inl ⟨by rw [<- ht1,beq_eq_false_iff_ne]; omega,h2⟩
   · exact Or.inr (Or.inl ⟨by rw [<- ht1,beq_iff_eq]; omega,by rw [<- ht2,beq_eq_false_iff_ne]; omega,h2⟩)
   · exact Or.inr (Or.inr ⟨by rw [<- ht1,beq_iff_eq]; omega,by rw [<- ht2,beq_iff_eq]; omega,h2⟩)
 clear he
 rcases hk with hk | hk | hk
 all_goals
   have hki:(key.size:Int) = _:=congrArg (fun n:Nat => (n:Int)) hk
   clear hk
   rcases hv with ⟨rfl,rfl⟩ | ⟨rfl,rfl,rfl⟩ | ⟨rfl,rfl,rfl⟩
 all_goals
   simp only [Bool.not_true,Bool.not_false] at n1 n2
   go_enter Tryz.func112,Tryz.ntmps112
   go_wp2_with fail
   go_ret
   exact ⟨rfl,rfl⟩
theorem pc_many (f:ByteArray -> ByteArray) (hf:∀ b,(f b).size = 16) (l:List UInt8) (n k:Nat) (h:k < n):Oct.pc (manyL f l n) 16 k = f (Oct.pc l 16 k):=by
 induction n with
 | zero => omega
 | succ n ih =>
   have hn:=manyL_len f hf l n
   rw [manyL_succ]
   by_cases hk:k < n
   · rw [<- ih hk]
     unfold Oct.pc
     rw [List.drop_append_of_le_length (by omega),List.take_append_of_le_length (by rw [List.length_drop]; omega)]
   · obtain rfl:k = n:=by omega
     unfold Oct.pc
     rw [List.drop_append,List.drop_eq_nil_of_le (by omega),hn,Nat.sub_self,List.nil_append,List.drop_zero]
     have h9:(f (Oct.pc l 16 k)).data.toList.length = 16:=hf _
     unfold Oct.pc at h9
     rw [List.take_of_length_le (by omega)]
     exact bs_list _
set_option maxHeartbeats 2000000 in
theorem dec_yes (key iv s:ByteArray) (hk:keyOk key) (hi:iv.size = 16) (hs:s.size % 16 = 0) (hm:s.size <= 1000000) (X:ByteArray) (hX:X = decC key iv s):Mak 81 #[.string key,.string iv,.string s] (.tuple #[.string X,.int .i64 0]):=by
 intro w
 have c1:=bad_key key iv s hk 0 (by omega) (by omega)
 obtain ⟨M,hM⟩:∃ M,M = manyK true key s:=⟨_,rfl⟩
 have c4:=RefAes.many_yes key s true hk hs hm M hM
 have hMs:M.size = s.size:=by rw [hM,manyK,size_bs,manyL_len _ (both_16 true key)]; omega
 have H0:=lH (Since.refl w)
 have HX:=lH hX
 have HM:=lH hs
 have HI:=lH hi
 have HMM:=lH hM
 have HMs:=lH hMs
 clear hk hX hs hi hM
 go_enter Tryz.func81,Tryz.ntmps81
 go_wp2_with fail
 refine (c1).calls ?_
 go_wp2_with fail
 refine c4.calls H0.out ?_
 intro w1 h1
 have H1:=lH h1
 clear h1
 go_wp2_with fail
 go_loopw [1,9,12] (fun p o i wr => ∃ (a k:Nat) (V O:ByteArray),i = .int .i64 (a:Int) /\ p = .string V /\ o = .string O /\ Hid (a = 16 * k) /\ a <= s.size /\ Hid (V = prevD iv s.data.toList k) /\ Hid (O = bs (chainD (decK key) iv s.data.toList k)) /\ Hid (Since w wr)) (fun _ _ i _ => s.size - (intOf i).toNat)
 case atStart => exact ⟨0,0,iv,⟨#[]⟩,rfl,rfl,rfl,lH rfl,Nat.zero_le _,lH rfl,lH rfl,H1⟩
 case round =>
   clear hMs
   obtain ⟨a,k,V,O,rfl,rfl,rfl,HA,ha,HV,HO,HS⟩:=hrel
   have hsl:s.data.toList.length = s.size:=rfl
   have hOs:O.size = a:=by rw [HO.out,size_bs,chainD_len _ (decK_size key) iv HI.out _ _ (by have:=HA.out; omega),HA.out]
   by_cases hlt:a < s.size
   · have hd:decide ((a:Int) < (s.size:Int)) = true:=decide_eq_true (by omega)
     have hak:a + 16 <= s.size:=by have:=HA.out; have:=HM.out; omega
     have he:=pc_ext s a k HA.out
     have hp:=pc_16 s k (by have:=HA.out; omega)
     have he2:=pc_ext M a k HA.out
     obtain ⟨P,hP⟩:∃ P,P = Oct.pc s.data.toList 16 k:=⟨_,rfl⟩
     rw [<- hP] at hp he
     obtain ⟨Z,hZ⟩:∃ Z,Z = decK key P:=⟨_,rfl⟩
     have hMz:Oct.pc M.data.toList 16 k = Z:=by
       rw [HMM.out,manyK,list_bs,if_pos rfl,pc_many _ (decK_size key) _ _ _ (by have:=HA.out; omega),hZ,hP]
     rw [hMz] at he2
     have hVs:V.size = 16:=by rw [HV.out]; exact prevD_size _ HI.out _ _ (by have:=HA.out; omega)
     have hZs:Z.size = 16:=by rw [hZ]; exact decK_size key P
     obtain ⟨Y,hY⟩:∃ Y,Y = Sched.xorS Z V:=⟨_,rfl⟩
     have hYs:Y.size = 16:=by rw [hY]; exact xor16_size _ _ hZs hVs
     have hPp:P = prevD iv s.data.toList (k + 1):=hP
     have c3:=RefSched.xor_m Z V (by omega) (by omega) Y hY
     have hsz:¬ 9223372036854775807 < O.size + Y.size:=by omega
     have hO2:O ++ Y = bs (chainD (decK key) iv s.data.toList (k + 1)):=by
       apply ba_ext
       rw [app_list,HO.out,list_bs,list_bs,chainD,hY,hZ,hP,HV.out]
     have i1:(0:Int) <= (a:Int):=by omega
     have i2:(a:Int) + 16 <= (s.size:Int):=by omega
     have i3:(a:Int) + 16 <= (M.size:Int):=by have:=HMs.out; omega
     clear hOs hp hP hY hVs hZ hZs hYs hMz hsl
     have HO2:=lH hO2
     have HPp:=lH hPp
     clear hO2 hPp
     go_wp2_with fail
     rw [he2]
     refine c3.calls HS.out ?_
     intro w2 h2
     have H2:=lH h2
     clear h2
     go_wp2_with fail
     rw [he]
     go_roundw
     case rel => exact ⟨a + 16,k + 1,P,_,by go_num,rfl,rfl,lH (by have:=HA.out; omega),hak,HPp,HO2,H2⟩
     case measure => simp [intOf]; omega
   · have hd:decide ((a:Int) < (s.size:Int)) = false:=decide_eq_false (by omega)
     have e:O = X:=by
       rw [HO.out,HX.out,decC,show s.size / 16 = k from by have:=HA.out; omega]
     subst e
     clear hOs hsl
     go_wp2_with fail
     go_ret2
     exact ⟨rfl,HS.out⟩
end RefCbc
namespace Cbc
open Rnd Aes RefAes RefCbc
theorem xorS_16 (a b:ByteArray) (ha:a.size = 16) (hb:b.size = 16):Sched.xorS a b = bs (xorL a.data.toList b.data.toList):=by
 unfold Sched.xorS
 rw [ha,hb]
 exact xor_str _ _
theorem xorS_back (a b:ByteArray) (ha:a.size = 16) (hb:b.size = 16):Sched.xorS (Sched.xorS a b) b = a:=by
 rw [xorS_16 a b ha hb,xorS_16 _ b (by rw [size_bs,xorL_len]) hb,list_bs,xor_xor _ _ ha]
 exact bs_list a
theorem pc_chain (f:ByteArray -> ByteArray) (hf:∀ b,(f b).size = 16) (iv:ByteArray) (l:List UInt8) (n k:Nat) (h:k < n):Oct.pc (chainE f iv l n) 16 k = prevE f iv l (k + 1):=by
 induction n with
 | zero => omega
 | succ n ih =>
   have hn:=chainE_len f hf iv l n
   rw [chainE]
   by_cases hk:k < n
   · rw [<- ih hk]
     unfold Oct.pc
     rw [List.drop_append_of_le_length (by omega),List.take_append_of_le_length (by rw [List.length_drop]; omega)]
   · obtain rfl:k = n:=by omega
     unfold Oct.pc
     rw [List.drop_append,List.drop_eq_nil_of_le (by omega),hn,Nat.sub_self,List.nil_append,List.drop_zero]
     have h9:(prevE f iv l (k + 1)).data.toList.length = 16:=hf _
     rw [List.take_of_length_le (by omega)]
     exact bs_list _
theorem prevD_chain (f:ByteArray -> ByteArray) (hf:∀ b,(f b).size = 16) (iv:ByteArray) (l:List UInt8) (n k:Nat) (h:k <= n):prevD iv (chainE f iv l n) k = prevE f iv l k:=by
 cases k with
 | zero => rfl
 | succ k => exact pc_chain f hf iv l n k (by omega)
theorem take_pc (l:List UInt8) (k:Nat):l.take (16 * k) ++ (Oct.pc l 16 k).data.toList = l.take (16 * (k + 1)):=by
 unfold Oct.pc
 rw [list_bs,show 16 * (k + 1) = 16 * k + 16 from by omega,List.take_add]
theorem chain_back (f g:ByteArray -> ByteArray) (hf:∀ b,(f b).size = 16) (hg:∀ b,b.size = 16 -> g (f b) = b) (iv:ByteArray) (hiv:iv.size = 16) (l:List UInt8) (n k:Nat) (hl:l.length = 16 * n) (h:k <= n):chainD g iv (chainE f iv l n) k = l.take (16 * k):=by
 induction k with
 | zero => simp [chainD]
 | succ k ih =>
   rw [chainD,ih (by omega),pc_chain f hf iv l n k (by omega),prevD_chain f hf iv l n k (by omega),prevE,
     hg _ (xor16_size _ _ (pc_size l k (by omega)) (prevE_size f hf iv hiv l k)),xorS_back _ _ (pc_size l k (by omega)) (prevE_size f hf iv hiv l k),take_pc]
theorem dec_encC (key iv s:ByteArray) (hiv:iv.size = 16) (hs:s.size % 16 = 0):decC key iv (encC key iv s) = s:=by
 have hl:s.data.toList.length = s.size:=rfl
 apply ba_ext
 unfold decC
 rw [list_bs]
 have hz:(encC key iv s).size / 16 = s.size / 16:=by unfold encC; rw [size_bs,chainE_len _ (encK_size key)]; omega
 rw [hz]
 unfold encC
 rw [list_bs,chain_back (encK key) (decK key) (encK_size key) (fun b hb => decK_encK key b hb) iv hiv _ _ _ (by omega) (Nat.le_refl _),List.take_of_length_le (by omega)]
end Cbc
end Go.Proofs.YtddlaafpianjbaaGreatDoor
