import Derived.Laws.CopyOwn
import Derived.Lib.SlBuf
import Derived.Test.YtagmgldibjjeeaaDoorPt4
set_option maxRecDepth 100000
namespace Go.Proofs.YtagmgldibjjeeaaDoor
open Go.RowKit
theorem info5:(Tryd.prog.info? 5).map (fun i => (i.zero,i.size,i.bytes)) = some (some (Value.int IntKind.u8 0),1,1):=by kernel_rfl
namespace Oct
def numN (l:List UInt8):Nat:=l.foldl (fun n c => n * 256 + c.toNat) 0
theorem numN_snoc (l:List UInt8) (c:UInt8):numN (l ++ [c]) = numN l * 256 + c.toNat:=by unfold numN; rw [List.foldl_append]; rfl
theorem numN_aux (l:List UInt8):∀ n:Nat,l.foldl (fun n c => n * 256 + c.toNat) n < (n + 1) * 256 ^ l.length:=by
 induction l with
 | nil => intro n; simp
 | cons c l ih =>
   intro n
   have h:=ih (n * 256 + c.toNat)
   have hc:=c.toNat_lt
   simp only [List.foldl_cons,List.length_cons]
   refine Nat.lt_of_lt_of_le h ?_
   rw [Nat.pow_succ,Nat.mul_comm (256 ^ l.length) 256,<- Nat.mul_assoc]
   exact Nat.mul_le_mul_right _ (by omega)
theorem numN_lt (l:List UInt8) (k:Nat) (h:l.length <= k):numN l < 256 ^ k:=by
 have h1:=numN_aux l 0
 rw [Nat.zero_add,Nat.one_mul] at h1
 exact Nat.lt_of_lt_of_le h1 (Nat.pow_le_pow_right (by decide) h)
end Oct
namespace RefOct
set_option maxHeartbeats 400000 in
theorem get_in (s:ByteArray) (w:World) (h1:1 <= s.size) (hs:s.size <= 8) :
   Calls Tryd.prog 28 #[.string s] w fun e w' => e = .returned (.tuple #[.int .u64 (Oct.numN s.data.toList:Nat),.bool true]) /\ w = w':=by
 go_enter Tryd.func28,Tryd.ntmps28
 go_wp2
 go_loop [4,5] (fun n i => ∃ k:Nat,k <= s.size /\ i = .int .i64 k /\ n = .int .u64 ((Oct.numN (s.data.toList.take k):Nat):Int)) (fun _ i => s.size - (intOf i).toNat)
 case atStart => exact ⟨0,Nat.zero_le _,rfl,rfl⟩
 case round =>
   obtain ⟨k,hk,rfl,rfl⟩:=hrel
   by_cases hlt:k < s.size
   · have hts:Oct.numN (s.data.toList.take (k + 1)) = Oct.numN (s.data.toList.take k) * 256 + s[k].toNat:=by
       rw [List.take_succ_eq_append_getElem (by simpa using hlt),Oct.numN_snoc]; rfl
     have HS:=lH hts; clear hts
     have hb:Oct.numN (s.data.toList.take k) < 72057594037927936:=Nat.lt_of_lt_of_le (Oct.numN_lt _ 7 (by simp; omega)) (by decide)
     have hc:=s[k].toNat_lt
     generalize Oct.numN (s.data.toList.take k) = q at *
     go_wp2_with fail
     go_round
     case rel => exact ⟨k + 1,by omega,by go_num,by rw [HS.out]; simp⟩
     case measure => simp [intOf]; omega
   · go_wp2_with fail
     go_ret2
     rw [List.take_of_length_le (by simp; omega)]
     exact ⟨rfl,rfl⟩
def low (n:Int):Nat -> List UInt8
 | 0 => []
 | k+1 => UInt8.ofNat (n / 2 ^ (8 * k) % 256).toNat :: low n k
theorem low_len (n:Int) (k:Nat):(low n k).length = k:=by
 induction k with
 | zero => rfl
 | succ k ih => simp [low,ih]
set_option maxHeartbeats 1000000 in
theorem put_mid (n:Int) (width:Nat) (w:World) (hn:0 <= n) (hn2:n <= 18446744073709551615) (h0:1 <= width) (h1:width <= 8) :
   Calls Tryd.prog 17 #[.int .u64 n,.int .i64 (width:Int)] w fun e w' => e = .returned (.string (bs (low n width))) /\ Below w.heap.size w w':=by
 go_enter Tryd.func17,Tryd.ntmps17
 go_wp2
 go_loopw [0,5,6] (fun v s i wr => ∃ (k:Nat) (m:Int),k <= width /\ i = .int .i64 (k:Int) /\ Hid (m = n / 2 ^ (8 * k)) /\ 0 <= m /\ m <= 18446744073709551615 /\ v = .int .u64 m /\ s = .string (bs (low n k)) /\ Hid (Since w wr)) (fun _ _ i _ => width - (intOf i).toNat)
 case atStart => exact ⟨0,n,by omega,rfl,lH (by simp),hn,hn2,rfl,rfl,lH (Since.refl w)⟩
 case round =>
   obtain ⟨k,m,hk,rfl,HM,hm0,hm1,rfl,rfl,HS⟩:=hrel
   by_cases hlt:k < width
   · have g:=run_convert_bytes_arg (P:=Tryd.prog) (wr.alloc (.cells #[.int .u8 (m % 256)] 5)) 32 5 Tryd.underlying32 Tryd.underlying5 wr.heap.size 0 1 1 [m % 256] rfl (fun i hi => by
       obtain rfl:i = 0:=by omega
       rw [Nat.zero_add,(World.rowIs_alloc wr #[.int .u8 (m % 256)] 5 (fun _ => .int .u8 (m % 256)) (fun j hj => by
         obtain rfl:j = 0:=by simp at hj; omega
         rfl)).cell (Nat.lt_succ_self 0)]; rfl) 9 Tryd.underlying9
     have hsz:¬ 9223372036854775807 < (strOfNums [m % 256]).size + (bs (low n k)).size:=by
       rw [strOfNums_size,size_bs,low_len]; simp; omega
     go_wp2_with fail
     go_roundw
     case rel =>
       refine ⟨k + 1,m / 256,by omega,by go_num,lH ?_,by omega,by omega,rfl, ?_,lH (HS.out.alloc _)⟩
       · rw [HM.out,Int.ediv_ediv_of_nonneg (by exact Int.le_of_lt (Int.pow_pos (by decide))),show 8 * (k + 1) = 8 * k + 8 from by omega,Int.pow_add]; rfl
       · congr 1
         apply ba_ext
         rw [app_list,list_bs,list_bs,nums_list,HM.out]
         rfl
     case measure => simp [intOf]; omega
   · obtain rfl:k = width:=by omega
     go_wp2_with fail
     go_ret
     exact ⟨rfl,HS.out⟩
end RefOct
namespace Pm
open RefOct (low)
def plc (c:UInt8):Nat:=(val c).getD 0
def fil (c:UInt8):Nat:=if (val c).isNone = true then 1 else 0
theorem val_fill:val 61 = none:=by decide +kernel
theorem plc_sg (d:Nat) (h:d < 64):plc (sg d) = d /\ fil (sg d) = 0:=by
 unfold plc fil
 rw [(val_all d h).1]
 exact ⟨rfl,rfl⟩
theorem plc_fill:plc 61 = 0 /\ fil 61 = 1:=by
 unfold plc fil
 rw [val_fill]
 exact ⟨rfl,rfl⟩
def num4 (a b c d:UInt8):Nat:=64 * (64 * (64 * plc a + plc b) + plc c) + plc d
def fils (a b c d:UInt8):Nat:=fil a + fil b + fil c + fil d
def grpR (a b c d:UInt8):List UInt8:=(low (num4 a b c d:Nat) 3).take (3 - fils a b c d)
def rcU:List UInt8 -> Option (List UInt8)
 | [] => some []
 | a :: b :: c :: d :: l => if 3 <= fils a b c d then none else (rcU l).map fun o => grpR a b c d ++ o
 | _ => none
theorem low3 (n:Nat):low (n:Nat) 3 = [UInt8.ofNat (n / 65536),UInt8.ofNat (n / 256),UInt8.ofNat n]:=by
 have h:∀ (m:Nat),UInt8.ofNat (((m:Int) % 256).toNat) = UInt8.ofNat m:=fun m => by
   apply UInt8.toNat_inj.1
   rw [UInt8.toNat_ofNat',UInt8.toNat_ofNat']
   omega
 unfold low low low low
 rw [show ((n:Nat):Int) / 2 ^ (8 * 2) = ((n / 65536:Nat):Int) by omega,show ((n:Nat):Int) / 2 ^ (8 * 1) = ((n / 256:Nat):Int) by omega,show ((n:Nat):Int) / 2 ^ (8 * 0) = ((n:Nat):Int) by omega,h,h,h]
theorem num_lt (a b c:UInt8):num3 a b c < 16777216:=by
 unfold num3
 have:=a.toNat_lt
 have:=b.toNat_lt
 have:=c.toNat_lt
 omega
theorem low_num (a b c:UInt8):low (num3 a b c:Nat) 3 = [a,b,c]:=by
 rw [low3]
 have:=a.toNat_lt
 have:=b.toNat_lt
 have:=c.toNat_lt
 rw [of_nat a _ (by unfold num3; omega),of_nat b _ (by unfold num3; omega),of_nat c _ (by unfold num3; omega)]
theorem num4_is (x:Nat) (h:x < 16777216):64 * (64 * (64 * (x / 2 ^ 18 % 64) + x / 2 ^ 12 % 64) + x / 2 ^ 6 % 64) + x / 2 ^ 0 % 64 = x:=by omega
theorem dig (x i:Nat):x / 2 ^ i % 64 < 64:=Nat.mod_lt _ (by decide)
theorem rcU_base:∀ l:List UInt8,rcU (baseL l) = some l
 | [] => rfl
 | [a] => by
   have hx:=num_lt a 0 0
   have h0:num3 a 0 0 / 2 ^ 6 % 64 = 0:=by unfold num3; show (a.toNat * 65536 + 0 * 256 + 0) / 2 ^ 6 % 64 = 0; omega
   have h1:num3 a 0 0 / 2 ^ 0 % 64 = 0:=by unfold num3; show (a.toNat * 65536 + 0 * 256 + 0) / 2 ^ 0 % 64 = 0; omega
   rw [baseL]
   unfold four
   rw [pick_in _ _ _ (by decide),pick_in _ _ _ (by decide),pick_out _ _ _ (by decide),pick_out _ _ _ (by decide),rcU]
   have e:=num4_is _ hx
   rw [h0,h1] at e
   have f:fils (sg (num3 a 0 0 / 2 ^ (18 - 6 * 0) % 64)) (sg (num3 a 0 0 / 2 ^ (18 - 6 * 1) % 64)) 61 61 = 2:=by
     unfold fils
     rw [(plc_sg _ (dig _ _)).2,(plc_sg _ (dig _ _)).2,plc_fill.2]
   have n:num4 (sg (num3 a 0 0 / 2 ^ (18 - 6 * 0) % 64)) (sg (num3 a 0 0 / 2 ^ (18 - 6 * 1) % 64)) 61 61 = num3 a 0 0:=by
     unfold num4
     rw [(plc_sg _ (dig _ _)).1,(plc_sg _ (dig _ _)).1,plc_fill.1]
     exact e
   unfold grpR
   rw [f,n,low_num]
   rfl
 | [a,b] => by
   have hx:=num_lt a b 0
   have h1:num3 a b 0 / 2 ^ 0 % 64 = 0:=by unfold num3; show (a.toNat * 65536 + b.toNat * 256 + 0) / 2 ^ 0 % 64 = 0; omega
   rw [baseL]
   unfold four
   rw [pick_in _ _ _ (by decide),pick_in _ _ _ (by decide),pick_in _ _ _ (by decide),pick_out _ _ _ (by decide),rcU]
   have e:=num4_is _ hx
   rw [h1] at e
   have f:fils (sg (num3 a b 0 / 2 ^ (18 - 6 * 0) % 64)) (sg (num3 a b 0 / 2 ^ (18 - 6 * 1) % 64)) (sg (num3 a b 0 / 2 ^ (18 - 6 * 2) % 64)) 61 = 1:=by
     unfold fils
     rw [(plc_sg _ (dig _ _)).2,(plc_sg _ (dig _ _)).2,(plc_sg _ (dig _ _)).2,plc_fill.2]
   have n:num4 (sg (num3 a b 0 / 2 ^ (18 - 6 * 0) % 64)) (sg (num3 a b 0 / 2 ^ (18 - 6 * 1) % 64)) (sg (num3 a b 0 / 2 ^ (18 - 6 * 2) % 64)) 61 = num3 a b 0:=by
     unfold num4
     rw [(plc_sg _ (dig _ _)).1,(plc_sg _ (dig _ _)).1,(plc_sg _ (dig _ _)).1,plc_fill.1]
     exact e
   unfold grpR
   rw [f,n,low_num]
   rfl
 | a :: b :: c :: l => by
   have ih:=rcU_base l
   have hx:=num_lt a b c
   rw [baseL]
   unfold four
   rw [pick_in _ _ _ (by decide),pick_in _ _ _ (by decide),pick_in _ _ _ (by decide),pick_in _ _ _ (by decide)]
   have e:=num4_is _ hx
   have f:fils (sg (num3 a b c / 2 ^ (18 - 6 * 0) % 64)) (sg (num3 a b c / 2 ^ (18 - 6 * 1) % 64)) (sg (num3 a b c / 2 ^ (18 - 6 * 2) % 64)) (sg (num3 a b c / 2 ^ (18 - 6 * 3) % 64)) = 0:=by
     unfold fils
     rw [(plc_sg _ (dig _ _)).2,(plc_sg _ (dig _ _)).2,(plc_sg _ (dig _ _)).2,(plc_sg _ (dig _ _)).2]
   have n:num4 (sg (num3 a b c / 2 ^ (18 - 6 * 0) % 64)) (sg (num3 a b c / 2 ^ (18 - 6 * 1) % 64)) (sg (num3 a b c / 2 ^ (18 - 6 * 2) % 64)) (sg (num3 a b c / 2 ^ (18 - 6 * 3) % 64)) = num3 a b c:=by
     unfold num4
     rw [(plc_sg _ (dig _ _)).1,(plc_sg _ (dig _ _)).1,(plc_sg _ (dig _ _)).1,(plc_sg _ (dig _ _)).1]
     exact e
   show rcU (_ :: _ :: _ :: _ :: baseL l) = _
   rw [rcU,if_neg (by rw [f]; decide),ih]
   unfold grpR
   rw [f,n,low_num]
   rfl
theorem rcU_app:∀ (k:Nat) (a b:List UInt8),a.length = 4 * k -> rcU (a ++ b) = (rcU a).bind fun o => (rcU b).map fun p => o ++ p
 | 0,a,b,h => by
   obtain rfl:a = []:=List.length_eq_zero_iff.1 (by omega)
   show rcU b = (rcU b).map fun p => [] ++ p
   cases rcU b <;> rfl
 | k + 1,a,b,h => by
   match a,h with
   | x :: y :: z :: u :: a,h =>
     have ih:=rcU_app k a b (by simp at h; omega)
     show rcU (x :: y :: z :: u :: (a ++ b)) = _
     rw [rcU,rcU,ih]
     by_cases hf:3 <= fils x y z u
     · rw [if_pos hf,if_pos hf]; rfl
     · rw [if_neg hf,if_neg hf]
       cases rcU a with
       | none => rfl
       | some o => cases rcU b with
         | none => rfl
         | some p => simp
def rub (t:List UInt8):List UInt8 × Bool:=if t.length % 4 ≠ 0 then ([],false) else match rcU t with
 | none => ([],false)
 | some s => if baseL s = t then (s,true) else ([],false)
theorem rub_eq (t:List UInt8):rub t = unbV t:=by
 by_cases h:∃ s,baseL s = t
 · obtain ⟨s,rfl⟩:=h
   rw [unb_base]
   unfold rub
   rw [if_neg (by rw [base_len]; omega),rcU_base]
   exact if_pos rfl
 · have h1:(unbV t).2 = false:=by
     cases h2:(unbV t).2
     · rfl
     · exact absurd ⟨_,unb_ok h2⟩ h
   rw [unb_no h1]
   unfold rub
   split
   · rfl
   · split
     · rfl
     · rw [if_neg (fun h3 => h ⟨_,h3⟩)]
end Pm
namespace Oct
def pc (l:List UInt8) (n i:Nat):ByteArray:=bs ((l.drop (n * i)).take n)
def pcs (l:List UInt8) (n m:Nat):List ByteArray:=(List.range m).map (pc l n)
theorem pcs_len (l:List UInt8) (n m:Nat):(pcs l n m).length = m:=by simp [pcs]
theorem pcs_succ (l:List UInt8) (n m:Nat):pcs l n (m + 1) = pcs l n m ++ [pc l n m]:=by simp [pcs,List.range_succ]
def strLen:Value -> Nat | .string r => r.size | _ => 0
theorem ceil_last (S n k:Nat) (h1:1 <= n) (h2:n * k < S) (h3:S - n * k <= n):(S + n - 1) / n = k + 1:=by
 have h4:n * (k + 1) = n * k + n:=Nat.mul_succ _ _
 rw [Nat.div_eq_of_lt_le]
 · rw [Nat.mul_comm]; omega
 · rw [Nat.mul_comm,Nat.mul_succ]; omega
end Oct
namespace RefOct
theorem one_ext (s:ByteArray) (j:Nat) (h:j < s.size):(s.extract j (j + 1)).data.toList = [s[j]]:=by
 rw [ext_list,Nat.add_sub_cancel_left,List.drop_eq_getElem_cons (show j < s.data.toList.length from h)]
 rfl
theorem snoc_ext (O s:ByteArray) (a k j:Nat) (hO:O.data.toList = (s.data.toList.drop a).take k) (hj:j = a + k) (h:j < s.size):(O ++ s.extract j (j + 1)).data.toList = (s.data.toList.drop a).take (k + 1):=by
 subst hj
 rw [app_list,hO,one_ext s _ h,List.take_succ_eq_append_getElem (by simp; have h9:s.size = s.data.toList.length:=rfl; omega)]
 simp
 rfl
set_option maxHeartbeats 1000000 in
theorem cut_yes (s:ByteArray) (a n:Nat) (w:World) (hm:s.size <= 140737488355328) (ha:a <= 9223372036854775807) (hn:n <= 9223372036854775807) (h1:1 <= n) (X:ByteArray) (hX:X = bs ((s.data.toList.drop a).take n)) :
   Calls Tryd.prog 27 #[.string s,.int .i64 (a:Int),.int .i64 (n:Int)] w fun e w' => e = .returned (.string X) /\ w = w':=by
 have HX:=lH hX
 clear hX
 go_enter Tryd.func27,Tryd.ntmps27
 go_wp2
 go_loop [7,8] (fun o i => ∃ (j k:Nat) (O:ByteArray),i = .int .i64 (j:Int) /\ o = .string O /\ Hid (j = a + k) /\ k <= n /\ j <= 9223372036854775807 /\ (a <= s.size -> j <= s.size) /\ (s.size < a -> k = 0) /\ Hid (O.data.toList = (s.data.toList.drop a).take k) /\ O.size <= k /\ (a <= s.size -> k <= O.size)) (fun _ i => s.size - (intOf i).toNat)
 case atStart => exact ⟨a,0,⟨#[]⟩,rfl,rfl,lH rfl,by omega,ha,fun h => h,fun _ => rfl,lH rfl,Nat.le_refl _,fun _ => Nat.le_refl _⟩
 case round =>
   obtain ⟨j,k,O,rfl,rfl,HJ,hk,hj9,hj,hk0,HO,ho1,ho2⟩:=hrel
   by_cases hlt:j < s.size
   · have hao:a <= s.size:=by have:=HJ.out; omega
     have hok:=ho2 hao
     by_cases hkn:O.size < n
     · have hsn:=snoc_ext O s a k j HO.out HJ.out hlt
       have hlen:(O ++ s.extract j (j + 1)).size = O.size + 1:=by
         show (O ++ s.extract j (j + 1)).data.toList.length = _
         rw [app_list,one_ext s j hlt,List.length_append]; rfl
       have hsz:¬ 9223372036854775807 < O.size + (s.extract j (j + 1)).size:=by simp; omega
       clear hj hk0 ho2
       have Hsn:=lH hsn
       clear hsn
       have Hlen:=lH hlen
       clear hlen
       go_wp2_with fail
       go_round
       case rel => exact ⟨j + 1,k + 1,_,by go_num,rfl,lH (by have:=HJ.out; omega),by omega,by omega,fun _ => by omega,fun h => by omega,Hsn,by rw [Hlen.out]; omega,fun _ => by rw [Hlen.out]; omega⟩
       case measure => simp [intOf]; omega
     · have hX2:X = O:=by
         rw [HX.out]
         apply ba_ext
         rw [HO.out,list_bs,show k = n from by omega]
       subst hX2
       clear hj hk0 ho2
       go_wp2_with fail
       go_ret
       exact ⟨rfl,rfl⟩
   · have hX2:X = O:=by
       rw [HX.out]
       apply ba_ext
       rw [HO.out,list_bs]
       have h9:s.size = s.data.toList.length:=rfl
       have:=HJ.out
       rw [List.take_of_length_le (by simp; omega),List.take_of_length_le (by
         simp
         by_cases h:a <= s.size
         · have:=hj h; omega
         · omega)]
     subst hX2
     clear hj hk0 ho2
     go_wp2_with fail
     go_ret
     exact ⟨rfl,rfl⟩
set_option maxHeartbeats 2000000 in
theorem pieces_mak (s:ByteArray) (n:Nat) (h1:1 <= n) (hn:n <= 9223372036854775807) (hm:s.size <= 1099511627776) (L:List ByteArray) (hL:L = Oct.pcs s.data.toList n ((s.size + n - 1) / n)):MakS 22 #[.string s,.int .i64 (n:Int)] L:=by
 intro w
 have HL:=lH hL
 clear hL
 have HM:=lH hm
 go_enter Tryd.func22,Tryd.ntmps22
 go_wp2
 go_loopw [5,6,7] (fun v o i wr => ∃ (j k r:Nat) (O:ByteArray),i = .int .i64 (j:Int) /\ j <= s.size /\ k <= j /\ Hid (j = n * k + r) /\ r < n /\ o = .string O /\ O.size <= r /\ r <= O.size /\ Hid (O.data.toList = (s.data.toList.drop (n * k)).take r) /\ Hid (wr.ownsRow w.heap.size 9 1 v k ((Oct.pcs s.data.toList n k).map Value.string)) /\ Hid (Since w wr)) (fun _ _ i _ => s.size - (intOf i).toNat)
 case atStart => exact ⟨0,0,0,⟨#[]⟩,rfl,by omega,by omega,lH (by simp),by omega,rfl,Nat.le_refl _,by omega,lH rfl,lH (World.ownsRow_nil _ _ _ _),lH (Since.refl w)⟩
 case round =>
   obtain ⟨j,k,r,O,rfl,hj,hk,HJ,hr,rfl,ho1,ho2,HOL,HO,HS⟩:=hrel
   by_cases hlt:j < s.size
   · have hsn:=snoc_ext O s (n * k) r j HOL.out HJ.out hlt
     have hsz:¬ 9223372036854775807 < O.size + (s.extract j (j + 1)).size:=by simp; omega
     have hlen:(O ++ s.extract j (j + 1)).size = O.size + 1:=by
       show (O ++ s.extract j (j + 1)).data.toList.length = _
       rw [app_list,one_ext s j hlt,List.length_append]; rfl
     have Hsn:=lH hsn
     clear hsn
     have Hlen:=lH hlen
     clear hlen
     have hmin:min (j + 1) s.size - j = 1:=by omega
     by_cases hfull:r + 1 = n
     · have hb:((O.size:Int) + 1 == (n:Int)) = true:=by rw [beq_iff_eq]; omega
       have hpc:O ++ s.extract j (j + 1) = Oct.pc s.data.toList n k:=by
         apply ba_ext
         rw [Hsn.out,hfull]; rfl
       have hj2:j + 1 = n * (k + 1) + 0:=by have:=HJ.out; rw [Nat.mul_succ]; omega
       have Hpc:=lH hpc
       clear hpc
       have Hfull:=lH hfull
       clear hfull
       have Hj2:=lH hj2
       clear hj2
       go_wp2_with (at_builtin; refine app_one elemS rfl _ _ rfl w wr _ k _ (by rfl) HO.out HS.out _ (by rfl) rfl (by omega) (by decide) ?_)
       intro v' w2 hO2 hS2
       have HO2:=lH hO2
       clear hO2
       have HS2:=lH hS2
       clear hS2
       go_wp2_with fail
       go_roundw
       case rel => exact ⟨j + 1,k + 1,0,⟨#[]⟩,by go_num,by omega,by omega,Hj2,by omega,rfl,Nat.le_refl _,by omega,lH rfl,lH (by rw [Oct.pcs_succ,List.map_append,<- Hpc.out]; exact HO2.out),HS2⟩
       case measure => simp [intOf]; omega
     · have hb:((O.size:Int) + 1 == (n:Int)) = false:=by rw [beq_eq_false_iff_ne]; omega
       have hj2:j + 1 = n * k + (r + 1):=by have:=HJ.out; omega
       have Hj2:=lH hj2
       clear hj2
       go_wp2_with fail
       go_roundw
       case rel => exact ⟨j + 1,k,r + 1,_,by go_num,by omega,by omega,Hj2,by omega,rfl,by rw [Hlen.out]; omega,by rw [Hlen.out]; omega,Hsn,HO,HS⟩
       case measure => simp [intOf]; omega
   · obtain rfl:j = s.size:=by omega
     have h9:s.size = s.data.toList.length:=rfl
     by_cases h0:r = 0
     · subst h0
       obtain rfl:O = ⟨#[]⟩:=ba_ext (List.eq_nil_of_length_eq_zero (by have h8:O.size = O.data.toList.length:=rfl; omega))
       have hL2:L = Oct.pcs s.data.toList n k:=by
         rw [HL.out,HJ.out,Nat.add_zero]
         congr 1
         rw [Nat.div_eq_of_lt_le]
         · rw [Nat.mul_comm]; omega
         · rw [Nat.mul_comm (k + 1),Nat.mul_succ]; omega
       subst hL2
       clear h9
       go_wp2_with fail
       go_ret
       exact ⟨_,rfl,by have h7:=HO.out; unfold Strs; rw [Oct.pcs_len]; exact h7,HS.out⟩
     · have hne:=some_bytes O (by omega)
       have hpc:O = Oct.pc s.data.toList n k:=by
         apply ba_ext
         show _ = (s.data.toList.drop (n * k)).take n
         have:=HJ.out
         rw [HOL.out,List.take_of_length_le (by simp; omega),List.take_of_length_le (by simp; omega)]
       have hL2:L = Oct.pcs s.data.toList n k ++ [O]:=by
         have:=HJ.out
         rw [HL.out,Oct.ceil_last s.size n k h1 (by omega) (by omega),Oct.pcs_succ,<- hpc]
       subst hL2
       have Hpc:=lH hpc
       clear hpc
       have H9:=lH h9
       clear h9
       go_wp2_with (at_builtin; refine app_one elemS rfl _ _ rfl w wr _ k _ (by rfl) HO.out HS.out _ (by rfl) rfl (by omega) (by decide) ?_)
       intro v' w2 hO2 hS2
       have HO2:=lH hO2
       clear hO2
       have HS2:=lH hS2
       clear hS2
       go_wp2_with fail
       go_ret
       exact ⟨_,rfl,by have h7:=HO2.out; unfold Strs; rw [List.map_append,List.length_append,Oct.pcs_len]; exact h7,HS2.out⟩
end RefOct
end Go.Proofs.YtagmgldibjjeeaaDoor
