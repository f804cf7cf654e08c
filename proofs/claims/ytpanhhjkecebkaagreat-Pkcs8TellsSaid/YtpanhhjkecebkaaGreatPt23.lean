import Derived.Test.YtpanhhjkecebkaaGreatPt20
import Derived.Test.YtpanhhjkecebkaaGreatPt7
import Derived.Test.YtpanhhjkecebkaaGreatPt12
set_option maxRecDepth 100000
namespace Go.Proofs.YtpanhhjkecebkaaGreat
open Go.RowKit
namespace Dig
end Dig
namespace Dig
end Dig
namespace Dig
end Dig
namespace Dig
def digs:Nat -> Nat -> List UInt8
 | 0,_ => []
 | f+1,M => if M < 10 then [UInt8.ofNat (48 + M)] else digs f (M / 10) ++ [UInt8.ofNat (48 + M % 10)]
def step (n:Int) (c:UInt8):Int:=if 48 <= c.toNat /\ c.toNat <= 57 then wrap64 (10 * n - ((c.toNat:Int) - 48)) else n
def numS (n:Int):List UInt8:=if n < 0 then 45 :: digs 20 n.natAbs else digs 20 n.natAbs
def unF (t:List UInt8):Int:=t.foldl step 0
def unV (t:List UInt8):Int:=if t ≠ [] /\ t.head? ≠ some 45 then wrap64 (-(unF t)) else unF t
end Dig
namespace Dig
end Dig
namespace RefDig
open Dig
end RefDig
namespace RefDig
open Dig
end RefDig
namespace RefHead
open Head
theorem conv_any (x:Int) (S:ByteArray) (hS:strOfNums [x] = S):∀ (W:World) (g:Nat),W.cell? ⟨g,0,none⟩ = some (.int .u8 x) -> ∀ dst,Tryz.prog.underlying dst = some .string -> (convert 99 dst (.slice (some ⟨g,0,none⟩) 1 1)).run Tryz.prog W = .ok (.string S) W:=by
 subst hS;intro W g hc;refine run_convert_bytes_arg (P:=Tryz.prog) W 99 5 Tryz.underlying99 Tryz.underlying5 g 0 1 1 [x] rfl fun i hi => ?_
 obtain rfl:i = 0:=by omega
 exact hc
set_option maxHeartbeats 2000000 in
theorem dig_mak (n:Nat) (hn:n <= 2097151) (X:ByteArray) (hX:X = bs (digL n)):Mak 160 #[.int .i64 (n:Int)] (.string X):=by
 intro w;have K0:=conv_any ((n:Int) % 128) (bs [UInt8.ofNat (n % 128)]) rfl;have HX:=lH hX;clear hX
 go_enter Tryz.func160,Tryz.ntmps160
 go_wp2_with fail;clear K0;go_loopw [0,3] (fun v s wr => ∃ (q:Nat) (L:List UInt8),v = .int .i64 (q:Int) /\ s = .string (bs L) /\ q <= 2097151 /\ L.length <= 3 /\ Hid (q = n / 128 /\ L = [UInt8.ofNat (n % 128)] ∨ 128 <= n /\ q = n / 16384 /\ L = [UInt8.ofNat (128 + n / 128 % 128),UInt8.ofNat (n % 128)] ∨ 16384 <= n /\ q = 0 /\ L = [UInt8.ofNat (128 + n / 16384 % 128),UInt8.ofNat (128 + n / 128 % 128),UInt8.ofNat (n % 128)]) /\ Hid (Since w wr)) (fun v _ _ => (intOf v).toNat)
 case atStart => exact ⟨n / 128,[UInt8.ofNat (n % 128)],by simp,rfl,by omega,by simp,lH (Or.inl ⟨rfl,rfl⟩),lH ((Since.refl w).alloc _)⟩
 case round =>
   obtain ⟨q,L,rfl,rfl,hq,hL,HC,HS⟩:=hrel
   by_cases h0:q = 0
   · subst h0;have hXL:X = bs L:=by
       rw [HX.out]
       congr 1
       rcases HC.out with ⟨h1,h2⟩ | ⟨h1,h2,h3⟩ | ⟨h1,h2,h3⟩
       · rw [h2,digL_1 n (by omega),Nat.mod_eq_of_lt (by omega)]
       · rw [h3,digL_2 n h1 (by omega),show n / 128 % 128 = n / 128 from by omega]
       · rw [h3,digL_3 n h1 hn,show n / 16384 % 128 = n / 16384 from by omega]
     subst hXL;go_wp2_with fail;go_ret;exact ⟨rfl,HS.out⟩
   · have hpos:0 < q:=by omega
     obtain ⟨d,hd⟩:∃ d:UInt8,d = UInt8.ofNat (128 + q % 128):=⟨_,rfl⟩
     have K1:=conv_any (128 + (q:Int) % 128) (bs [d]) (by rw [hd]; rfl);have hcat:bs [d] ++ bs L = bs (d :: L):=by apply ba_ext; rw [app_list]; rfl
     have hsz:¬ 9223372036854775807 < (bs [d]).size + (bs L).size:=by rw [size_bs,size_bs]; simp; omega
     have hnext:q / 128 <= 2097151 /\ (d :: L).length <= 3 /\ (128 <= n /\ q / 128 = n / 16384 /\ d :: L = [UInt8.ofNat (128 + n / 128 % 128),UInt8.ofNat (n % 128)] ∨ 16384 <= n /\ q / 128 = 0 /\ d :: L = [UInt8.ofNat (128 + n / 16384 % 128),UInt8.ofNat (128 + n / 128 % 128),UInt8.ofNat (n % 128)]):=by
       rcases HC.out with ⟨h1,h2⟩ | ⟨h1,h2,h3⟩ | ⟨h1,h2,h3⟩
       · refine ⟨by omega,by rw [h2]; simp,Or.inl ⟨by omega,by omega,by rw [h2,hd,h1]⟩⟩
       · refine ⟨by omega,by rw [h3]; simp,Or.inr ⟨by omega,by omega,by rw [h3,hd,h2]⟩⟩
       · exact absurd h2 h0
     obtain ⟨n1,n2,n3⟩:=hnext;have HN3:=lH n3;clear n3 hd;generalize hLL:bs (d :: L) = LL at hcat;go_wp2_with fail;go_roundw
     case rel => exact ⟨q / 128,d :: L,by simp,by rw [hLL],n1,n2,lH (Or.inr HN3.out),lH (HS.out.alloc _)⟩
     case measure => simp [intOf]; omega
set_option maxHeartbeats 2000000 in
theorem may_yes (c t n:Int) (b:Bool) (h:okH c t n):Mak 159 #[.agg #[.int .i64 c,.int .i64 t,.bool b,.int .i64 n]] (.bool true):=by
 intro w;obtain ⟨h1,h2,h3,h4,h5,h6⟩:=h;have h2':c < 4:=by omega
 go_enter Tryz.func159,Tryz.ntmps159
 go_wp2_with fail;go_ret;exact ⟨rfl,(Since.refl w).alloc _⟩
theorem low1 (n:Nat) (h:n < 256):RefOct.low (n:Int) 1 = [UInt8.ofNat n]:=by
 show [UInt8.ofNat ((n:Int) / 2 ^ (8 * 0) % 256).toNat] = _
 congr 2
 simp;omega
theorem low2 (n:Nat) (h:n <= 65535):RefOct.low (n:Int) 2 = [UInt8.ofNat (n / 256),UInt8.ofNat (n % 256)]:=by
 show [UInt8.ofNat ((n:Int) / 2 ^ (8 * 1) % 256).toNat,UInt8.ofNat ((n:Int) / 2 ^ (8 * 0) % 256).toNat] = _
 have e1:((n:Int) / 2 ^ (8 * 1) % 256).toNat = n / 256:=by simp; omega
 have e2:((n:Int) / 2 ^ (8 * 0) % 256).toNat = n % 256:=by simp; omega
 rw [e1,e2]
set_option maxHeartbeats 8000000 in
theorem enc_st (c t n:Nat) (F:Int) (hF:64 * (c:Int) + (if true then 32 else 0) = F) (hc:c <= 3) (ht:t < 31) (hn:n <= 65535) (c1:Mak 159 #[.agg #[.int .i64 (c:Int),.int .i64 (t:Int),.bool true,.int .i64 (n:Int)]] (.bool true))
   (A:ByteArray) (hAs:A.size <= 4) (K1:∀ (W:World) (g:Nat),W.cell? ⟨g,0,none⟩ = some (.int .u8 (F + t)) -> ∀ dst,Tryz.prog.underlying dst = some .string -> (convert 99 dst (.slice (some ⟨g,0,none⟩) 1 1)).run Tryz.prog W = .ok (.string A) W) (X:ByteArray)
   (hX:n < 128 /\ A ++ bs [UInt8.ofNat n] = X ∨ 128 <= n /\ n < 256 /\ A ++ ⟨#[129]⟩ ++ bs (RefOct.low (n:Int) 1) = X ∨ 256 <= n /\ A ++ ⟨#[130]⟩ ++ bs (RefOct.low (n:Int) 2) = X) (w:World) :
   Calls Tryz.prog 131 #[.agg #[.int .i64 (c:Int),.int .i64 (t:Int),.bool true,.int .i64 (n:Int)]] w fun e w' => e = .returned (.tuple #[.string X,.int .i64 0]) /\ Since w w':=by
 simp only [if_true] at hF;have hF2:0 <= F /\ F <= 224:=by omega
 obtain ⟨f1,f2⟩:=hF2;rcases hX with ⟨h1,hX⟩ | ⟨h1,h2,hX⟩ | ⟨h1,hX⟩
 · have K2:=conv_any (n:Int) (bs [UInt8.ofNat n]) rfl;have hz:(bs [UInt8.ofNat n]).size = 1:=rfl;generalize bs [UInt8.ofNat n] = N at *;have hsz:¬ 9223372036854775807 < A.size + N.size:=by omega
   go_enter Tryz.func131,Tryz.ntmps131
   go_wp2_with fail;refine c1.calls0 ?_;intro w1 h1;obtain ⟨q0,q1,q2,q3⟩:=box4 (show Since (w.alloc (.cells #[.int .i64 (c:Int),.int .i64 (t:Int),.bool true,.int .i64 (n:Int)] 126)) w1 from h1);have hlt:w.heap.size < w1.heap.size:=by have h9:=Below.size h1; simp at h9; omega
   have H1:Hid (Since w w1):=lH (Since.step ((Since.refl w).alloc _) h1);clear h1;go_wp2_with fail;go_ret2;exact ⟨rfl,by first | exact H1.out.alloc _ | exact (H1.out.alloc _).alloc _⟩
 · have c3:Mak 161 #[.int .u64 (n:Int),.int .i64 1] (.string (bs (RefOct.low (n:Int) 1))):=fun w => RefOct.put_mid (n:Int) 1 w (by omega) (by omega) (by decide) (by decide)
   have hz:(bs (RefOct.low (n:Int) 1)).size = 1:=RefOct.low_len _ _;generalize bs (RefOct.low (n:Int) 1) = N at *;have hz2:(A ++ ⟨#[129]⟩).size = A.size + 1:=by simp; rfl
   have hsz:¬ 9223372036854775807 < A.size + (⟨#[129]⟩:ByteArray).size:=by rw [show (⟨#[129]⟩:ByteArray).size = 1 from rfl]; omega
   have hsz2:¬ 9223372036854775807 < (A ++ ⟨#[129]⟩).size + N.size:=by omega
   go_enter Tryz.func131,Tryz.ntmps131
   go_wp2_with fail;refine c1.calls0 ?_;intro w1 h1;obtain ⟨q0,q1,q2,q3⟩:=box4 (show Since (w.alloc (.cells #[.int .i64 (c:Int),.int .i64 (t:Int),.bool true,.int .i64 (n:Int)] 126)) w1 from h1);have hlt:w.heap.size < w1.heap.size:=by have h9:=Below.size h1; simp at h9; omega
   have H1:Hid (Since w w1):=lH (Since.step ((Since.refl w).alloc _) h1);clear h1;go_wp2_with fail;refine c3.calls0 ?_;intro w6 h6;have H6:Hid (Since w w6):=lH (Since.step (by first | exact H1.out | exact H1.out.alloc _) h6);clear h6;go_wp2_with fail;go_ret2;exact ⟨rfl,H6.out⟩
 · have c3:Mak 161 #[.int .u64 (n:Int),.int .i64 2] (.string (bs (RefOct.low (n:Int) 2))):=fun w => RefOct.put_mid (n:Int) 2 w (by omega) (by omega) (by decide) (by decide)
   have hz:(bs (RefOct.low (n:Int) 2)).size = 2:=RefOct.low_len _ _;generalize bs (RefOct.low (n:Int) 2) = N at *;have hz2:(A ++ ⟨#[130]⟩).size = A.size + 1:=by simp; rfl
   have hsz:¬ 9223372036854775807 < A.size + (⟨#[130]⟩:ByteArray).size:=by rw [show (⟨#[130]⟩:ByteArray).size = 1 from rfl]; omega
   have hsz2:¬ 9223372036854775807 < (A ++ ⟨#[130]⟩).size + N.size:=by omega
   go_enter Tryz.func131,Tryz.ntmps131
   go_wp2_with fail;refine c1.calls0 ?_;intro w1 h1;obtain ⟨q0,q1,q2,q3⟩:=box4 (show Since (w.alloc (.cells #[.int .i64 (c:Int),.int .i64 (t:Int),.bool true,.int .i64 (n:Int)] 126)) w1 from h1);have hlt:w.heap.size < w1.heap.size:=by have h9:=Below.size h1; simp at h9; omega
   have H1:Hid (Since w w1):=lH (Since.step ((Since.refl w).alloc _) h1);clear h1;go_wp2_with fail;refine c3.calls0 ?_;intro w6 h6;have H6:Hid (Since w w6):=lH (Since.step (by first | exact H1.out | exact H1.out.alloc _) h6);clear h6;go_wp2_with fail;go_ret2;exact ⟨rfl,H6.out⟩
set_option maxHeartbeats 8000000 in
theorem enc_sf (c t n:Nat) (F:Int) (hF:64 * (c:Int) + (if false then 32 else 0) = F) (hc:c <= 3) (ht:t < 31) (hn:n <= 65535) (c1:Mak 159 #[.agg #[.int .i64 (c:Int),.int .i64 (t:Int),.bool false,.int .i64 (n:Int)]] (.bool true))
   (A:ByteArray) (hAs:A.size <= 4) (K1:∀ (W:World) (g:Nat),W.cell? ⟨g,0,none⟩ = some (.int .u8 (F + t)) -> ∀ dst,Tryz.prog.underlying dst = some .string -> (convert 99 dst (.slice (some ⟨g,0,none⟩) 1 1)).run Tryz.prog W = .ok (.string A) W) (X:ByteArray)
   (hX:n < 128 /\ A ++ bs [UInt8.ofNat n] = X ∨ 128 <= n /\ n < 256 /\ A ++ ⟨#[129]⟩ ++ bs (RefOct.low (n:Int) 1) = X ∨ 256 <= n /\ A ++ ⟨#[130]⟩ ++ bs (RefOct.low (n:Int) 2) = X) (w:World) :
   Calls Tryz.prog 131 #[.agg #[.int .i64 (c:Int),.int .i64 (t:Int),.bool false,.int .i64 (n:Int)]] w fun e w' => e = .returned (.tuple #[.string X,.int .i64 0]) /\ Since w w':=by
 simp only [Bool.false_eq_true,if_false,Int.add_zero] at hF;have hF2:0 <= F /\ F <= 224:=by omega
 obtain ⟨f1,f2⟩:=hF2;rcases hX with ⟨h1,hX⟩ | ⟨h1,h2,hX⟩ | ⟨h1,hX⟩
 · have K2:=conv_any (n:Int) (bs [UInt8.ofNat n]) rfl;have hz:(bs [UInt8.ofNat n]).size = 1:=rfl;generalize bs [UInt8.ofNat n] = N at *;have hsz:¬ 9223372036854775807 < A.size + N.size:=by omega
   go_enter Tryz.func131,Tryz.ntmps131
   go_wp2_with fail;refine c1.calls0 ?_;intro w1 h1;obtain ⟨q0,q1,q2,q3⟩:=box4 (show Since (w.alloc (.cells #[.int .i64 (c:Int),.int .i64 (t:Int),.bool false,.int .i64 (n:Int)] 126)) w1 from h1);have hlt:w.heap.size < w1.heap.size:=by have h9:=Below.size h1; simp at h9; omega
   have H1:Hid (Since w w1):=lH (Since.step ((Since.refl w).alloc _) h1);clear h1;go_wp2_with fail;go_ret2;exact ⟨rfl,by first | exact H1.out.alloc _ | exact (H1.out.alloc _).alloc _⟩
 · have c3:Mak 161 #[.int .u64 (n:Int),.int .i64 1] (.string (bs (RefOct.low (n:Int) 1))):=fun w => RefOct.put_mid (n:Int) 1 w (by omega) (by omega) (by decide) (by decide)
   have hz:(bs (RefOct.low (n:Int) 1)).size = 1:=RefOct.low_len _ _;generalize bs (RefOct.low (n:Int) 1) = N at *;have hz2:(A ++ ⟨#[129]⟩).size = A.size + 1:=by simp; rfl
   have hsz:¬ 9223372036854775807 < A.size + (⟨#[129]⟩:ByteArray).size:=by rw [show (⟨#[129]⟩:ByteArray).size = 1 from rfl]; omega
   have hsz2:¬ 9223372036854775807 < (A ++ ⟨#[129]⟩).size + N.size:=by omega
   go_enter Tryz.func131,Tryz.ntmps131
   go_wp2_with fail;refine c1.calls0 ?_;intro w1 h1;obtain ⟨q0,q1,q2,q3⟩:=box4 (show Since (w.alloc (.cells #[.int .i64 (c:Int),.int .i64 (t:Int),.bool false,.int .i64 (n:Int)] 126)) w1 from h1);have hlt:w.heap.size < w1.heap.size:=by have h9:=Below.size h1; simp at h9; omega
   have H1:Hid (Since w w1):=lH (Since.step ((Since.refl w).alloc _) h1);clear h1;go_wp2_with fail;refine c3.calls0 ?_;intro w6 h6;have H6:Hid (Since w w6):=lH (Since.step (by first | exact H1.out | exact H1.out.alloc _) h6);clear h6;go_wp2_with fail;go_ret2;exact ⟨rfl,H6.out⟩
 · have c3:Mak 161 #[.int .u64 (n:Int),.int .i64 2] (.string (bs (RefOct.low (n:Int) 2))):=fun w => RefOct.put_mid (n:Int) 2 w (by omega) (by omega) (by decide) (by decide)
   have hz:(bs (RefOct.low (n:Int) 2)).size = 2:=RefOct.low_len _ _;generalize bs (RefOct.low (n:Int) 2) = N at *;have hz2:(A ++ ⟨#[130]⟩).size = A.size + 1:=by simp; rfl
   have hsz:¬ 9223372036854775807 < A.size + (⟨#[130]⟩:ByteArray).size:=by rw [show (⟨#[130]⟩:ByteArray).size = 1 from rfl]; omega
   have hsz2:¬ 9223372036854775807 < (A ++ ⟨#[130]⟩).size + N.size:=by omega
   go_enter Tryz.func131,Tryz.ntmps131
   go_wp2_with fail;refine c1.calls0 ?_;intro w1 h1;obtain ⟨q0,q1,q2,q3⟩:=box4 (show Since (w.alloc (.cells #[.int .i64 (c:Int),.int .i64 (t:Int),.bool false,.int .i64 (n:Int)] 126)) w1 from h1);have hlt:w.heap.size < w1.heap.size:=by have h9:=Below.size h1; simp at h9; omega
   have H1:Hid (Since w w1):=lH (Since.step ((Since.refl w).alloc _) h1);clear h1;go_wp2_with fail;refine c3.calls0 ?_;intro w6 h6;have H6:Hid (Since w w6):=lH (Since.step (by first | exact H1.out | exact H1.out.alloc _) h6);clear h6;go_wp2_with fail;go_ret2;exact ⟨rfl,H6.out⟩
end RefHead
end Go.Proofs.YtpanhhjkecebkaaGreat
