import Derived.Test.YtpanhhjkecebkaaGreatPt4
import Derived.BigQuiet
set_option maxRecDepth 100000
namespace Go.Proofs.YtpanhhjkecebkaaGreat
open Go.RowKit
namespace Prn
def allB:List UInt8:=[65,66,67,68,69,70,71,72,73,74,75,76,77,78,79,80,81,82,83,84,85,86,87,88,89,90,97,98,99,100,101,102,103,104,105,106,107,108,109,110,111,112,113,114,115,116,117,118,119,120,121,122,48,49,50,51,52,53,54,55,56,57,32,39,40,41,43,44,45,46,47,58,61,63]
def sAll:ByteArray:=⟨List.toArray (65 :: 66 :: 67 :: 68 :: 69 :: 70 :: 71 :: 72 :: 73 :: 74 :: 75 :: 76 :: 77 :: 78 :: 79 :: 80 :: 81 :: 82 :: 83 :: 84 :: 85 :: 86 :: 87 :: 88 :: 89 :: 90 :: 97 :: 98 :: 99 :: 100 :: 101 :: 102 :: 103 :: 104 :: 105 :: 106 :: 107 :: 108 :: 109 :: 110 :: 111 :: 112 :: 113 :: 114 :: 115 :: 116 :: 117 :: 118 :: 119 :: 120 :: 121 :: 122 :: 48 :: 49 :: 50 :: 51 :: 52 :: 53 :: 54 :: 55 :: 56 :: 57 :: 32 :: 39 :: 40 :: 41 :: 43 :: 44 :: 45 :: 46 :: 47 :: 58 :: 61 :: 63 :: [])⟩
theorem sAll_size:sAll.size = 74:=rfl
theorem take_any (c:UInt8) (m:Nat) (h:m < sAll.size):(allB.take (m + 1)).any (· == c) = ((allB.take m).any (· == c) || sAll[m] == c):=by
 have h2:m < allB.length:=h;rw [List.take_add_one,List.getElem?_eq_getElem h2,List.any_append]
 show _ = (_ || allB[m] == c)
 simp
def okc (c:UInt8):Bool:=allB.any (· == c)
def prnB (l:List UInt8):Bool:=l.all okc
set_option maxHeartbeats 1000000 in
theorem prn_mak (s:ByteArray) (hm:s.size <= 1000000) (q:Bool) (hq:q = prnB s.data.toList):Mak 177 #[.string s] (.bool q):=by
 intro w;have HS:=lH (Since.refl w);have HQ:=lH hq;clear hq
 go_enter Tryz.func177,Tryz.ntmps177
 go_wp2_with fail;go_loopw [3,4,5] (fun i _ _ wr => ∃ k:Nat,k <= s.size /\ i = .int .i64 (k:Int) /\ Hid (q = prnB (s.data.toList.drop k)) /\ Hid (Since w wr)) (fun i _ _ _ => s.size - (intOf i).toNat)
 case atStart => exact ⟨0,by omega,rfl,by rw [List.drop_zero]; exact HQ,HS⟩
 case round =>
   clear HQ HS;obtain ⟨k,hk,rfl,HQ,HS⟩:=hrel
   by_cases hlt:k < s.size
   · obtain ⟨c,hc⟩:∃ c,c = s[k]:=⟨_,rfl⟩
     have hst:q = (okc c && prnB (s.data.toList.drop (k + 1))):=by
       rw [HQ.out,hc,List.drop_eq_getElem_cons (show k < s.data.toList.length from hlt)]; rfl
     have HC:=lH hc;have HQ2:=lH hst;clear HQ hst hc;go_wp2_with fail;go_loopw [4,5] (fun f j wr2 => ∃ m:Nat,m <= 74 /\ j = .int .i64 (m:Int) /\ f = .bool ((allB.take m).any (· == c)) /\ Hid (Since w wr2)) (fun _ j _ => 74 - (intOf j).toNat)
     case atStart => exact ⟨0,by omega,rfl,rfl,HS⟩
     case round =>
       clear HS;obtain ⟨m,hm9,rfl,rfl,HS⟩:=hrel
       by_cases hl2:m < 74
       · have hz:m < sAll.size:=by rw [sAll_size]; exact hl2
         obtain ⟨f,hf⟩:∃ f,f = (allB.take m).any (· == c):=⟨_,rfl⟩
         have hn:=take_any c m hz;rw [<- hf] at hn ⊢;have hb:(((sAll[m]'hz).toNat:Int) == (s[k].toNat:Int)) = (sAll[m] == c):=by
           rw [HC.out,Bool.eq_iff_iff,beq_iff_eq,beq_iff_eq];exact ⟨fun h => UInt8.toNat_inj.1 (Int.ofNat.inj h),fun h => by rw [h]⟩
         obtain ⟨g,hg⟩:∃ g,g = (sAll[m] == c):=⟨_,rfl⟩
         rw [<- hg] at hb hn;have HN:=lH hn;clear hn hf hg;unfold sAll at hz hb;cases g with
         | false =>
           go_wp2_with fail
           go_quiet (fail)
           go_wp2_with fail;go_roundw
           case rel => exact ⟨m + 1,by omega,by go_num,by rw [HN.out,Bool.or_false],lH (Since.step HS.out ⟨rfl,rfl,rfl,Nat.le_refl _,fun _ _ => rfl⟩)⟩
           case measure => simp [intOf]; omega
         | true =>
           go_wp2_with fail
           go_quiet (fail)
           go_wp2_with fail;go_roundw
           case rel => exact ⟨m + 1,by omega,by go_num,by rw [HN.out,Bool.or_true],lH (Since.step HS.out ⟨rfl,rfl,rfl,Nat.le_refl _,fun _ _ => rfl⟩)⟩
           case measure => simp [intOf]; omega
       · obtain rfl:m = 74:=by omega
         rw [show (allB.take 74).any (· == c) = okc c from rfl];cases ho:okc c with
         | false =>
           have hq:=HQ2.out;rw [ho,Bool.false_and] at hq;subst hq;go_wp2_with fail;go_ret;exact ⟨rfl,HS.out⟩
         | true =>
           have hq:=HQ2.out;rw [ho,Bool.true_and] at hq;go_wp2_with fail;go_roundw
           case rel => exact ⟨k + 1,by omega,by go_num,lH hq,HS⟩
           case measure => simp [intOf]; omega
   · obtain rfl:q = true:=by
       rw [HQ.out,List.drop_eq_nil_of_le (by have:s.data.toList.length = s.size:=rfl; omega)]; rfl
     go_wp2_with fail;go_ret;exact ⟨rfl,HS.out⟩
end Prn
namespace RefDig
end RefDig
end Go.Proofs.YtpanhhjkecebkaaGreat
