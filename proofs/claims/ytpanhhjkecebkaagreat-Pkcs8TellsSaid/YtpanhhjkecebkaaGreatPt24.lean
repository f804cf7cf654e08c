import Derived.Test.YtpanhhjkecebkaaGreatPt23
set_option maxRecDepth 100000
namespace Go.Proofs.YtpanhhjkecebkaaGreat
open Go.RowKit
namespace RefHead
open Head
theorem lt_alloc (w:World) (o:Obj):w.heap.size < (w.alloc o).drew.heap.size:=by simp
set_option maxHeartbeats 8000000 in
theorem enc_lt (c t n:Nat) (F:Int) (hF:64 * (c:Int) + (if true then 32 else 0) = F) (hc:c <= 3) (ht:31 <= t) (ht2:t <= 2097151) (hn:n <= 65535) (c1:Mak 159 #[.agg #[.int .i64 (c:Int),.int .i64 (t:Int),.bool true,.int .i64 (n:Int)]] (.bool true))
   (D:ByteArray) (hDs:D.size <= 4) (c2:Mak 160 #[.int .i64 (t:Int)] (.string D))
   (A0:ByteArray) (hA0s:A0.size <= 4) (K1:∀ (W:World) (g:Nat),W.cell? ⟨g,0,none⟩ = some (.int .u8 (F + 31)) -> ∀ dst,Tryz.prog.underlying dst = some .string -> (convert 99 dst (.slice (some ⟨g,0,none⟩) 1 1)).run Tryz.prog W = .ok (.string A0) W) (A:ByteArray) (hAs:A.size <= 8) (hA:A0 ++ D = A) (X:ByteArray)
   (hX:n < 128 /\ A ++ bs [UInt8.ofNat n] = X ∨ 128 <= n /\ n < 256 /\ A ++ ⟨#[129]⟩ ++ bs (RefOct.low (n:Int) 1) = X ∨ 256 <= n /\ A ++ ⟨#[130]⟩ ++ bs (RefOct.low (n:Int) 2) = X) (w:World) :
   Calls Tryz.prog 131 #[.agg #[.int .i64 (c:Int),.int .i64 (t:Int),.bool true,.int .i64 (n:Int)]] w fun e w' => e = .returned (.tuple #[.string X,.int .i64 0]) /\ Since w w':=by
 simp only [if_true] at hF;have hF2:0 <= F /\ F <= 224:=by omega
 obtain ⟨f1,f2⟩:=hF2;have hsA:¬ 9223372036854775807 < A0.size + D.size:=by omega
 have ht':¬ (t:Int) < 31:=by omega
 rcases hX with ⟨h1,hX⟩ | ⟨h1,h2,hX⟩ | ⟨h1,hX⟩
 · have K2:=conv_any (n:Int) (bs [UInt8.ofNat n]) rfl;have hz:(bs [UInt8.ofNat n]).size = 1:=rfl;generalize bs [UInt8.ofNat n] = N at *;have hsz:¬ 9223372036854775807 < A.size + N.size:=by omega
   go_enter Tryz.func131,Tryz.ntmps131
   go_wp2_with fail;refine c1.calls0 ?_;intro w1 h1;obtain ⟨q0,q1,q2,q3⟩:=box4 (show Since (w.alloc (.cells #[.int .i64 (c:Int),.int .i64 (t:Int),.bool true,.int .i64 (n:Int)] 126)) w1 from h1);have hlt:w.heap.size < w1.heap.size:=by have h9:=Below.size h1; simp at h9; omega
   have H1:Hid (Since w w1):=lH (Since.step ((Since.refl w).alloc _) h1);clear h1;go_wp2_with fail;have hw1:IntKind.i64.wrap (F + 31) = F + 31:=IntWalk.i64_in _ (by omega);have hw2:IntKind.u8.wrap (F + 31) = F + 31:=by show (F + 31) % 256 = F + 31; omega
   go_region_with (first | (go_at_call 160; refine c2.calls0 ?_; intro w5 h5; (try (have u0:=h5.cell (p:=⟨w1.heap.size,0,none⟩) (lt_alloc _ _); simp [go_sem] at u0)); have q0:=(h5.cell (p:=⟨w.heap.size,0,none⟩) (by simp; try omega)); have q1:=(h5.cell (p:=⟨w.heap.size,1,none⟩) (by simp; try omega)); have q3:=(h5.cell (p:=⟨w.heap.size,3,none⟩) (by simp; try omega)); simp [go_sem,hlt] at q0 q1 q3; have hlt5:w.heap.size < w5.heap.size:=(by have h9:=Below.size h5; simp at h9; omega); have H1:Hid (Since w w5):=lH (Since.step (by first | exact H1.out | exact H1.out.drew | exact H1.out.alloc _ | exact (H1.out.drew).alloc _) h5); clear h5))
   all_goals
     go_wp2_with fail;go_ret2;exact ⟨rfl,by first | exact H1.out.alloc _ | exact (H1.out.alloc _).alloc _ | exact ((H1.out.alloc _).drew).alloc _ | exact (H1.out.drew).alloc _⟩
 · have c3:Mak 161 #[.int .u64 (n:Int),.int .i64 1] (.string (bs (RefOct.low (n:Int) 1))):=fun w => RefOct.put_mid (n:Int) 1 w (by omega) (by omega) (by decide) (by decide)
   have hz:(bs (RefOct.low (n:Int) 1)).size = 1:=RefOct.low_len _ _;generalize bs (RefOct.low (n:Int) 1) = N at *;have hz2:(A ++ ⟨#[129]⟩).size = A.size + 1:=by simp; rfl
   have hsz:¬ 9223372036854775807 < A.size + (⟨#[129]⟩:ByteArray).size:=by rw [show (⟨#[129]⟩:ByteArray).size = 1 from rfl]; omega
   have hsz2:¬ 9223372036854775807 < (A ++ ⟨#[129]⟩).size + N.size:=by omega
   go_enter Tryz.func131,Tryz.ntmps131
   go_wp2_with fail;refine c1.calls0 ?_;intro w1 h1;obtain ⟨q0,q1,q2,q3⟩:=box4 (show Since (w.alloc (.cells #[.int .i64 (c:Int),.int .i64 (t:Int),.bool true,.int .i64 (n:Int)] 126)) w1 from h1);have hlt:w.heap.size < w1.heap.size:=by have h9:=Below.size h1; simp at h9; omega
   have H1:Hid (Since w w1):=lH (Since.step ((Since.refl w).alloc _) h1);clear h1;go_wp2_with fail;have hw1:IntKind.i64.wrap (F + 31) = F + 31:=IntWalk.i64_in _ (by omega);have hw2:IntKind.u8.wrap (F + 31) = F + 31:=by show (F + 31) % 256 = F + 31; omega
   go_region_with (first | (go_at_call 160; refine c2.calls0 ?_; intro w5 h5; (try (have u0:=h5.cell (p:=⟨w1.heap.size,0,none⟩) (lt_alloc _ _); simp [go_sem] at u0)); have q0:=(h5.cell (p:=⟨w.heap.size,0,none⟩) (by simp; try omega)); have q1:=(h5.cell (p:=⟨w.heap.size,1,none⟩) (by simp; try omega)); have q3:=(h5.cell (p:=⟨w.heap.size,3,none⟩) (by simp; try omega)); simp [go_sem,hlt] at q0 q1 q3; have hlt5:w.heap.size < w5.heap.size:=(by have h9:=Below.size h5; simp at h9; omega); have H1:Hid (Since w w5):=lH (Since.step (by first | exact H1.out | exact H1.out.drew | exact H1.out.alloc _ | exact (H1.out.drew).alloc _) h5); clear h5))
   all_goals
     go_wp2_with fail;refine c3.calls0 ?_;intro w6 h6;have H6:Hid (Since w w6):=lH (Since.step (by first | exact H1.out | exact H1.out.drew | exact H1.out.alloc _ | exact (H1.out.alloc _).drew | exact (H1.out.drew).alloc _) h6);clear h6;go_wp2_with fail;go_ret2;exact ⟨rfl,H6.out⟩
 · have c3:Mak 161 #[.int .u64 (n:Int),.int .i64 2] (.string (bs (RefOct.low (n:Int) 2))):=fun w => RefOct.put_mid (n:Int) 2 w (by omega) (by omega) (by decide) (by decide)
   have hz:(bs (RefOct.low (n:Int) 2)).size = 2:=RefOct.low_len _ _;generalize bs (RefOct.low (n:Int) 2) = N at *;have hz2:(A ++ ⟨#[130]⟩).size = A.size + 1:=by simp; rfl
   have hsz:¬ 9223372036854775807 < A.size + (⟨#[130]⟩:ByteArray).size:=by rw [show (⟨#[130]⟩:ByteArray).size = 1 from rfl]; omega
   have hsz2:¬ 9223372036854775807 < (A ++ ⟨#[130]⟩).size + N.size:=by omega
   go_enter Tryz.func131,Tryz.ntmps131
   go_wp2_with fail;refine c1.calls0 ?_;intro w1 h1;obtain ⟨q0,q1,q2,q3⟩:=box4 (show Since (w.alloc (.cells #[.int .i64 (c:Int),.int .i64 (t:Int),.bool true,.int .i64 (n:Int)] 126)) w1 from h1);have hlt:w.heap.size < w1.heap.size:=by have h9:=Below.size h1; simp at h9; omega
   have H1:Hid (Since w w1):=lH (Since.step ((Since.refl w).alloc _) h1);clear h1;go_wp2_with fail;have hw1:IntKind.i64.wrap (F + 31) = F + 31:=IntWalk.i64_in _ (by omega);have hw2:IntKind.u8.wrap (F + 31) = F + 31:=by show (F + 31) % 256 = F + 31; omega
   go_region_with (first | (go_at_call 160; refine c2.calls0 ?_; intro w5 h5; (try (have u0:=h5.cell (p:=⟨w1.heap.size,0,none⟩) (lt_alloc _ _); simp [go_sem] at u0)); have q0:=(h5.cell (p:=⟨w.heap.size,0,none⟩) (by simp; try omega)); have q1:=(h5.cell (p:=⟨w.heap.size,1,none⟩) (by simp; try omega)); have q3:=(h5.cell (p:=⟨w.heap.size,3,none⟩) (by simp; try omega)); simp [go_sem,hlt] at q0 q1 q3; have hlt5:w.heap.size < w5.heap.size:=(by have h9:=Below.size h5; simp at h9; omega); have H1:Hid (Since w w5):=lH (Since.step (by first | exact H1.out | exact H1.out.drew | exact H1.out.alloc _ | exact (H1.out.drew).alloc _) h5); clear h5))
   all_goals
     go_wp2_with fail;refine c3.calls0 ?_;intro w6 h6;have H6:Hid (Since w w6):=lH (Since.step (by first | exact H1.out | exact H1.out.drew | exact H1.out.alloc _ | exact (H1.out.alloc _).drew | exact (H1.out.drew).alloc _) h6);clear h6;go_wp2_with fail;go_ret2;exact ⟨rfl,H6.out⟩
set_option maxHeartbeats 8000000 in
theorem enc_lf (c t n:Nat) (F:Int) (hF:64 * (c:Int) + (if false then 32 else 0) = F) (hc:c <= 3) (ht:31 <= t) (ht2:t <= 2097151) (hn:n <= 65535) (c1:Mak 159 #[.agg #[.int .i64 (c:Int),.int .i64 (t:Int),.bool false,.int .i64 (n:Int)]] (.bool true))
   (D:ByteArray) (hDs:D.size <= 4) (c2:Mak 160 #[.int .i64 (t:Int)] (.string D))
   (A0:ByteArray) (hA0s:A0.size <= 4) (K1:∀ (W:World) (g:Nat),W.cell? ⟨g,0,none⟩ = some (.int .u8 (F + 31)) -> ∀ dst,Tryz.prog.underlying dst = some .string -> (convert 99 dst (.slice (some ⟨g,0,none⟩) 1 1)).run Tryz.prog W = .ok (.string A0) W) (A:ByteArray) (hAs:A.size <= 8) (hA:A0 ++ D = A) (X:ByteArray)
   (hX:n < 128 /\ A ++ bs [UInt8.ofNat n] = X ∨ 128 <= n /\ n < 256 /\ A ++ ⟨#[129]⟩ ++ bs (RefOct.low (n:Int) 1) = X ∨ 256 <= n /\ A ++ ⟨#[130]⟩ ++ bs (RefOct.low (n:Int) 2) = X) (w:World) :
   Calls Tryz.prog 131 #[.agg #[.int .i64 (c:Int),.int .i64 (t:Int),.bool false,.int .i64 (n:Int)]] w fun e w' => e = .returned (.tuple #[.string X,.int .i64 0]) /\ Since w w':=by
 simp only [Bool.false_eq_true,if_false,Int.add_zero] at hF;have hF2:0 <= F /\ F <= 224:=by omega
 obtain ⟨f1,f2⟩:=hF2;have hsA:¬ 9223372036854775807 < A0.size + D.size:=by omega
 have ht':¬ (t:Int) < 31:=by omega
 rcases hX with ⟨h1,hX⟩ | ⟨h1,h2,hX⟩ | ⟨h1,hX⟩
 · have K2:=conv_any (n:Int) (bs [UInt8.ofNat n]) rfl;have hz:(bs [UInt8.ofNat n]).size = 1:=rfl;generalize bs [UInt8.ofNat n] = N at *;have hsz:¬ 9223372036854775807 < A.size + N.size:=by omega
   go_enter Tryz.func131,Tryz.ntmps131
   go_wp2_with fail;refine c1.calls0 ?_;intro w1 h1;obtain ⟨q0,q1,q2,q3⟩:=box4 (show Since (w.alloc (.cells #[.int .i64 (c:Int),.int .i64 (t:Int),.bool false,.int .i64 (n:Int)] 126)) w1 from h1);have hlt:w.heap.size < w1.heap.size:=by have h9:=Below.size h1; simp at h9; omega
   have H1:Hid (Since w w1):=lH (Since.step ((Since.refl w).alloc _) h1);clear h1;go_wp2_with fail;have hw1:IntKind.i64.wrap (F + 31) = F + 31:=IntWalk.i64_in _ (by omega);have hw2:IntKind.u8.wrap (F + 31) = F + 31:=by show (F + 31) % 256 = F + 31; omega
   go_region_with (first | (go_at_call 160; refine c2.calls0 ?_; intro w5 h5; (try (have u0:=h5.cell (p:=⟨w1.heap.size,0,none⟩) (lt_alloc _ _); simp [go_sem] at u0)); have q0:=(h5.cell (p:=⟨w.heap.size,0,none⟩) (by simp; try omega)); have q1:=(h5.cell (p:=⟨w.heap.size,1,none⟩) (by simp; try omega)); have q3:=(h5.cell (p:=⟨w.heap.size,3,none⟩) (by simp; try omega)); simp [go_sem,hlt] at q0 q1 q3; have hlt5:w.heap.size < w5.heap.size:=(by have h9:=Below.size h5; simp at h9; omega); have H1:Hid (Since w w5):=lH (Since.step (by first | exact H1.out | exact H1.out.drew | exact H1.out.alloc _ | exact (H1.out.drew).alloc _) h5); clear h5))
   all_goals
     go_wp2_with fail;go_ret2;exact ⟨rfl,by first | exact H1.out.alloc _ | exact (H1.out.alloc _).alloc _ | exact ((H1.out.alloc _).drew).alloc _ | exact (H1.out.drew).alloc _⟩
 · have c3:Mak 161 #[.int .u64 (n:Int),.int .i64 1] (.string (bs (RefOct.low (n:Int) 1))):=fun w => RefOct.put_mid (n:Int) 1 w (by omega) (by omega) (by decide) (by decide)
   have hz:(bs (RefOct.low (n:Int) 1)).size = 1:=RefOct.low_len _ _;generalize bs (RefOct.low (n:Int) 1) = N at *;have hz2:(A ++ ⟨#[129]⟩).size = A.size + 1:=by simp; rfl
   have hsz:¬ 9223372036854775807 < A.size + (⟨#[129]⟩:ByteArray).size:=by rw [show (⟨#[129]⟩:ByteArray).size = 1 from rfl]; omega
   have hsz2:¬ 9223372036854775807 < (A ++ ⟨#[129]⟩).size + N.size:=by omega
   go_enter Tryz.func131,Tryz.ntmps131
   go_wp2_with fail;refine c1.calls0 ?_;intro w1 h1;obtain ⟨q0,q1,q2,q3⟩:=box4 (show Since (w.alloc (.cells #[.int .i64 (c:Int),.int .i64 (t:Int),.bool false,.int .i64 (n:Int)] 126)) w1 from h1);have hlt:w.heap.size < w1.heap.size:=by have h9:=Below.size h1; simp at h9; omega
   have H1:Hid (Since w w1):=lH (Since.step ((Since.refl w).alloc _) h1);clear h1;go_wp2_with fail;have hw1:IntKind.i64.wrap (F + 31) = F + 31:=IntWalk.i64_in _ (by omega);have hw2:IntKind.u8.wrap (F + 31) = F + 31:=by show (F + 31) % 256 = F + 31; omega
   go_region_with (first | (go_at_call 160; refine c2.calls0 ?_; intro w5 h5; (try (have u0:=h5.cell (p:=⟨w1.heap.size,0,none⟩) (lt_alloc _ _); simp [go_sem] at u0)); have q0:=(h5.cell (p:=⟨w.heap.size,0,none⟩) (by simp; try omega)); have q1:=(h5.cell (p:=⟨w.heap.size,1,none⟩) (by simp; try omega)); have q3:=(h5.cell (p:=⟨w.heap.size,3,none⟩) (by simp; try omega)); simp [go_sem,hlt] at q0 q1 q3; have hlt5:w.heap.size < w5.heap.size:=(by have h9:=Below.size h5; simp at h9; omega); have H1:Hid (Since w w5):=lH (Since.step (by first | exact H1.out | exact H1.out.drew | exact H1.out.alloc _ | exact (H1.out.drew).alloc _) h5); clear h5))
   all_goals
     go_wp2_with fail;refine c3.calls0 ?_;intro w6 h6;have H6:Hid (Since w w6):=lH (Since.step (by first | exact H1.out | exact H1.out.drew | exact H1.out.alloc _ | exact (H1.out.alloc _).drew | exact (H1.out.drew).alloc _) h6);clear h6;go_wp2_with fail;go_ret2;exact ⟨rfl,H6.out⟩
 · have c3:Mak 161 #[.int .u64 (n:Int),.int .i64 2] (.string (bs (RefOct.low (n:Int) 2))):=fun w => RefOct.put_mid (n:Int) 2 w (by omega) (by omega) (by decide) (by decide)
   have hz:(bs (RefOct.low (n:Int) 2)).size = 2:=RefOct.low_len _ _;generalize bs (RefOct.low (n:Int) 2) = N at *;have hz2:(A ++ ⟨#[130]⟩).size = A.size + 1:=by simp; rfl
   have hsz:¬ 9223372036854775807 < A.size + (⟨#[130]⟩:ByteArray).size:=by rw [show (⟨#[130]⟩:ByteArray).size = 1 from rfl]; omega
   have hsz2:¬ 9223372036854775807 < (A ++ ⟨#[130]⟩).size + N.size:=by omega
   go_enter Tryz.func131,Tryz.ntmps131
   go_wp2_with fail;refine c1.calls0 ?_;intro w1 h1;obtain ⟨q0,q1,q2,q3⟩:=box4 (show Since (w.alloc (.cells #[.int .i64 (c:Int),.int .i64 (t:Int),.bool false,.int .i64 (n:Int)] 126)) w1 from h1);have hlt:w.heap.size < w1.heap.size:=by have h9:=Below.size h1; simp at h9; omega
   have H1:Hid (Since w w1):=lH (Since.step ((Since.refl w).alloc _) h1);clear h1;go_wp2_with fail;have hw1:IntKind.i64.wrap (F + 31) = F + 31:=IntWalk.i64_in _ (by omega);have hw2:IntKind.u8.wrap (F + 31) = F + 31:=by show (F + 31) % 256 = F + 31; omega
   go_region_with (first | (go_at_call 160; refine c2.calls0 ?_; intro w5 h5; (try (have u0:=h5.cell (p:=⟨w1.heap.size,0,none⟩) (lt_alloc _ _); simp [go_sem] at u0)); have q0:=(h5.cell (p:=⟨w.heap.size,0,none⟩) (by simp; try omega)); have q1:=(h5.cell (p:=⟨w.heap.size,1,none⟩) (by simp; try omega)); have q3:=(h5.cell (p:=⟨w.heap.size,3,none⟩) (by simp; try omega)); simp [go_sem,hlt] at q0 q1 q3; have hlt5:w.heap.size < w5.heap.size:=(by have h9:=Below.size h5; simp at h9; omega); have H1:Hid (Since w w5):=lH (Since.step (by first | exact H1.out | exact H1.out.drew | exact H1.out.alloc _ | exact (H1.out.drew).alloc _) h5); clear h5))
   all_goals
     go_wp2_with fail;refine c3.calls0 ?_;intro w6 h6;have H6:Hid (Since w w6):=lH (Since.step (by first | exact H1.out | exact H1.out.drew | exact H1.out.alloc _ | exact (H1.out.alloc _).drew | exact (H1.out.drew).alloc _) h6);clear h6;go_wp2_with fail;go_ret2;exact ⟨rfl,H6.out⟩
end RefHead
namespace RefHead
open Head
theorem digL_len (t:Nat):(digL t).length <= 3:=by unfold digL seg; split <;> split <;> simp
theorem app_bs (a b:List UInt8):bs a ++ bs b = bs (a ++ b):=by apply ba_ext; rw [app_list]; rfl
theorem app_129 (a:List UInt8):bs a ++ ⟨#[129]⟩ = bs (a ++ [129]):=app_bs a [129]
theorem app_130 (a:List UInt8):bs a ++ ⟨#[130]⟩ = bs (a ++ [130]):=app_bs a [130]
theorem lens_of (c t n:Nat) (b:Bool) (hn:n <= 65535) (A:ByteArray) (hA:A = bs (tagL c t b)) (X:ByteArray) (hX:X = bs (encL c t b n)) :
   n < 128 /\ A ++ bs [UInt8.ofNat n] = X ∨ 128 <= n /\ n < 256 /\ A ++ ⟨#[129]⟩ ++ bs (RefOct.low (n:Int) 1) = X ∨ 256 <= n /\ A ++ ⟨#[130]⟩ ++ bs (RefOct.low (n:Int) 2) = X:=by
 subst hA hX
 by_cases h1:n < 128
 · refine Or.inl ⟨h1, ?_⟩;rw [app_bs]; unfold encL lenL; rw [if_pos h1]
 · by_cases h2:n < 256
   · refine Or.inr (Or.inl ⟨by omega,h2, ?_⟩);rw [app_129,app_bs,low1 n h2]; unfold encL lenL; rw [if_neg h1,if_pos h2,List.append_assoc]; rfl
   · refine Or.inr (Or.inr ⟨by omega, ?_⟩);rw [app_130,app_bs,low2 n hn]; unfold encL lenL; rw [if_neg h1,if_neg h2,List.append_assoc]; rfl
theorem first_i (c t:Nat) (b:Bool) (hc:c <= 3) (ht:t < 32):strOfNums [64 * (c:Int) + (if b then 32 else 0) + (t:Int)] = bs [UInt8.ofNat (first c t b)]:=by
 rw [bs_nums];refine congrArg (fun y => bs [UInt8.ofNat y]) ?_;unfold first;cases b <;> simp <;> omega
theorem renc_ok (c t n:Nat) (b:Bool) (hc:c <= 3) (ht:t <= 2097151) (hn:n <= 65535) (X:ByteArray) (hX:X = bs (encL c t b n)):Mak 131 #[.agg #[.int .i64 (c:Int),.int .i64 (t:Int),.bool b,.int .i64 (n:Int)]] (.tuple #[.string X,.int .i64 0]):=by
 have c1:=may_yes (c:Int) (t:Int) (n:Int) b ⟨by omega,by omega,by omega,by omega,by omega,by omega⟩
 by_cases h:t < 31
 · have K1:=conv_any (64 * (c:Int) + (if b then 32 else 0) + (t:Int)) _ (first_i c t b hc (by omega));have hA:bs [UInt8.ofNat (first c t b)] = bs (tagL c t b):=by unfold tagL; rw [if_pos h]
   intro w;cases b with
   | true => exact enc_st c t n _ rfl hc h hn c1 _ (by rw [size_bs]; simp) K1 X (lens_of c t n true hn _ hA X hX) w
   | false => exact enc_sf c t n _ rfl hc h hn c1 _ (by rw [size_bs]; simp) K1 X (lens_of c t n false hn _ hA X hX) w
 · have K1:=conv_any (64 * (c:Int) + (if b then 32 else 0) + 31) _ (first_i c 31 b hc (by omega));have hA:bs (UInt8.ofNat (first c 31 b) :: digL t) = bs (tagL c t b):=by rw [tagL_long c t b h]
   have hd:=digL_len t;have hs:(bs (UInt8.ofNat (first c 31 b) :: digL t)).size <= 8:=by rw [size_bs,List.length_cons]; omega
   intro w;cases b with
   | true => exact enc_lt c t n _ rfl hc (by omega) ht hn c1 (bs (digL t)) (by rw [size_bs]; omega) (dig_mak t ht _ rfl) _ (by rw [size_bs]; simp) K1 _ hs (app_bs _ _) X (lens_of c t n true hn _ hA X hX) w
   | false => exact enc_lf c t n _ rfl hc (by omega) ht hn c1 (bs (digL t)) (by rw [size_bs]; omega) (dig_mak t ht _ rfl) _ (by rw [size_bs]; simp) K1 _ hs (app_bs _ _) X (lens_of c t n false hn _ hA X hX) w
theorem psize
 (c t n:Int) (b:Bool) (X:ByteArray) (e:Int) (_hX:X.size <= 100) (c1:Mak 99 #[.agg #[.int .i64 c,.int .i64 t,.bool b,.int .i64 n]] (.tuple #[.string X,.int .i64 e])):Mak 98 #[.agg #[.int .i64 c,.int .i64 t,.bool b,.int .i64 n]] (.int .i64 (X.size:Int)):=by
   intro w
   go_enter Tryz.func98,Tryz.ntmps98
   go_wp2_with fail;refine c1.calls0 ?_;intro w1 h1;have H1:Hid (Since w w1):=lH (Since.step ((Since.refl w).alloc _) h1);clear h1;go_wp2_with fail;go_ret;exact ⟨rfl,H1.out⟩
end RefHead
namespace RefHead
open Head
theorem rtagR_b (l:List UInt8) (c t:Nat) (b:Bool) (k:Nat) (h:rtagR l = some (c,t,b,k)):c <= 3 /\ t <= 2097151 /\ 1 <= k /\ k <= 4 /\ k <= l.length:=by
 cases l with
 | nil => cases h
 | cons x l =>
   have hx:=x.toNat_lt
   by_cases h31:x.toNat % 32 < 31
   · simp only [rtagR,h31,if_true] at h;cases h;exact ⟨by omega,by omega,by omega,by omega,by simp⟩
   · simp only [rtagR,h31,if_false] at h;cases hd:digR l with
     | none => rw [hd] at h; cases h
     | some p =>
       obtain ⟨t2,k2⟩:=p;rw [hd] at h;simp only [] at h;obtain ⟨b1,b2,b3,b4⟩:=digR_b l t2 k2 hd;cases h;exact ⟨by omega,b1,by omega,by omega,by simp; omega⟩
theorem cells4.alloc {w:World} {B:Nat} {a b c d:Value} (h:cells4 w B a b c d) (hB:B < w.heap.size) (o:Obj):cells4 (w.alloc o) B a b c d :=
 h.below _ (Below.alloc (Below.refl _ _) (Nat.le_refl _) o) hB
theorem cells4.set3 {w:World} {B:Nat} {a b c d:Value} (h:cells4 w B a b c d) (x:Value):cells4 (w.setCell ⟨B,3,none⟩ x) B a b c x:=by
 obtain ⟨⟨h0,h1,h2,h3⟩,f0,f1,f2,f3⟩:=h;refine ⟨⟨?_, ?_, ?_, ?_⟩, ?_, ?_, ?_, ?_⟩
 · rw [World.cell?_setCell_other _ _ _ _ (by simp)]; exact h0
 · rw [World.cell?_setCell_other _ _ _ _ (by simp)]; exact h1
 · rw [World.cell?_setCell_other _ _ _ _ (by simp)]; exact h2
 · exact World.cell?_setCell_same _ _ _ h3
 · simpa [go_sem] using f0
 · simpa [go_sem] using f1
 · simpa [go_sem] using f2
 · simpa [go_sem] using f3
theorem Since.drewN {W0 w:World} (h:Since W0 w) (q:Nat):Since W0 (w.drewN q):=Since.step h ⟨rfl,rfl,rfl,Nat.le_refl _,fun _ _ => rfl⟩
set_option maxHeartbeats 4000000 in
theorem rd_none (s:ByteArray) (c1:Mak 130 #[.string s] (.tuple #[.agg #[.int .i64 0,.int .i64 0,.bool false,.int .i64 0],.int .i64 0])):Mak 93 #[.string s] (decV (none0,0,5)):=by
 intro w
 go_enter Tryz.func93,Tryz.ntmps93
 go_wp2_with fail;refine c1.calls0 ?_;intro w1 h1;have HR1:=lH ((cells4_new w (.int .i64 0) (.int .i64 0) (.bool false) (.int .i64 0) 126).below _ h1 (by simp));have H1:Hid (Since w w1):=lH (Since.step ((Since.refl w).alloc _) h1);have hlt:w.heap.size < w1.heap.size:=by have h9:=Below.size h1; simp at h9; omega
 clear h1;obtain ⟨⟨r0,r1,r2,r3⟩,f0,f1,f2,f3⟩:=HR1.out;go_wp2_with fail;obtain ⟨s0,s1,s2,s3⟩:=set4 r0 r1 r2 r3 (.int .i64 0) (.int .i64 0) (.bool false) (.int .i64 0);exact bodyPost_ret (v:=decV (none0,0,5)) (by simp [results,Tryz.results93,go_sem,s0,s1,s2,s3,hlt]; try rfl) rfl ⟨rfl,(Since4 H1.out (Nat.le_refl _)).alloc _⟩
set_option maxHeartbeats 4000000 in
theorem rd_tag (s:ByteArray) (_hm:s.size <= 1000000) (c t:Nat) (b:Bool) (k:Nat) (hk1:1 <= k) (hk:k <= s.size) (A:ByteArray) (hA:A.size <= 7) (hA1:1 <= A.size) (c1:Mak 130 #[.string s] (.tuple #[.agg #[.int .i64 (c:Int),.int .i64 (t:Int),.bool b,.int .i64 0],.int .i64 (k:Int)])) (c2:Mak 131 #[.agg #[.int .i64 (c:Int),.int .i64 (t:Int),.bool b,.int .i64 0]] (.tuple #[.string A,.int .i64 0]))
   (hne:A.extract 0 (A.size - 1) ≠ s.extract 0 k):Mak 93 #[.string s] (decV (none0,0,5)):=by
 intro w;have hk0:((k:Int) == 0) = false:=by rw [beq_eq_false_iff_ne]; omega
 have hki:(k:Int) <= (s.size:Int):=by omega
 have hq:=str_ne_t hne;clear hne;obtain ⟨j,hj⟩:∃ j,A.size = j + 1:=⟨A.size - 1,by omega⟩
 rw [hj,Nat.add_sub_cancel] at hq;have hji:(A.size:Int) - 1 = (j:Int):=by omega
 have hjl:(j:Int) <= (A.size:Int):=by omega
 go_enter Tryz.func93,Tryz.ntmps93
 go_wp2_with fail;refine c1.calls0 ?_;intro w1 h1;have HR1:=lH ((cells4_new w (.int .i64 0) (.int .i64 0) (.bool false) (.int .i64 0) 126).below _ h1 (by simp));have H1:Hid (Since w w1):=lH (Since.step ((Since.refl w).alloc _) h1);have hlt:w.heap.size < w1.heap.size:=by have h9:=Below.size h1; simp at h9; omega
 clear h1;obtain ⟨⟨r0,r1,r2,r3⟩,f0,f1,f2,f3⟩:=HR1.out;go_wp2_with fail;clear r0 r1 r2 r3 f0 f1 f2 f3;refine c2.calls0 ?_;intro w2 h2;have HQ2:=lH ((cells4_new w1 (.int .i64 (c:Int)) (.int .i64 (t:Int)) (.bool b) (.int .i64 0) 126).below _ h2 (by simp));have HR2:=lH ((cells4.alloc HR1.out hlt _).below _ h2 (by simp; omega));have H2:Hid (Since w w2):=lH (Since.step (H1.out.alloc _) h2);have hlt2:w1.heap.size < w2.heap.size:=by have h9:=Below.size h2; simp at h9; omega
 clear h2 HR1 H1;obtain ⟨⟨r0,r1,r2,r3⟩,f0,f1,f2,f3⟩:=HR2.out;obtain ⟨⟨q0,q1,q2,q3⟩,g0,g1,g2,g3⟩:=HQ2.out;go_wp2_with fail
 go_quiet (fail)
 go_wp2_with fail;obtain ⟨s0,s1,s2,s3⟩:=set4 (W:=w2.drewN nq) r0 r1 r2 r3 (.int .i64 0) (.int .i64 0) (.bool false) (.int .i64 0);exact bodyPost_ret (v:=decV (none0,0,5)) (by simp [results,Tryz.results93,go_sem,s0,s1,s2,s3]; try rfl) rfl ⟨rfl,Since4 (Since.drewN H2.out nq) (Nat.le_refl _)⟩
set_option maxHeartbeats 4000000 in
theorem rd_end (s:ByteArray) (hm:s.size <= 1000000) (c t:Nat) (b:Bool) (k:Nat) (hk1:1 <= k) (_hk:k <= s.size) (A:ByteArray) (hA:A.size <= 7) (hA1:1 <= A.size) (c1:Mak 130 #[.string s] (.tuple #[.agg #[.int .i64 (c:Int),.int .i64 (t:Int),.bool b,.int .i64 0],.int .i64 (k:Int)])) (c2:Mak 131 #[.agg #[.int .i64 (c:Int),.int .i64 (t:Int),.bool b,.int .i64 0]] (.tuple #[.string A,.int .i64 0]))
   (he:A.extract 0 (A.size - 1) = s.extract 0 k) (hend:k = s.size):Mak 93 #[.string s] (decV (none0,0,5)):=by
 intro w;have hk0:((k:Int) == 0) = false:=by rw [beq_eq_false_iff_ne]; omega
 have hki:(k:Int) <= (s.size:Int):=by omega
 have hq:=str_eq_f he;clear he;obtain ⟨j,hj⟩:∃ j,A.size = j + 1:=⟨A.size - 1,by omega⟩
 rw [hj,Nat.add_sub_cancel] at hq;have hji:(A.size:Int) - 1 = (j:Int):=by omega
 have hjl:(j:Int) <= (A.size:Int):=by omega
 have hke:((k:Int) == (s.size:Int)) = true:=by rw [hend]; exact beq_self_eq_true _
 clear hend
 go_enter Tryz.func93,Tryz.ntmps93
 go_wp2_with fail;refine c1.calls0 ?_;intro w1 h1;have HR1:=lH ((cells4_new w (.int .i64 0) (.int .i64 0) (.bool false) (.int .i64 0) 126).below _ h1 (by simp));have H1:Hid (Since w w1):=lH (Since.step ((Since.refl w).alloc _) h1);have hlt:w.heap.size < w1.heap.size:=by have h9:=Below.size h1; simp at h9; omega
 clear h1;obtain ⟨⟨r0,r1,r2,r3⟩,f0,f1,f2,f3⟩:=HR1.out;go_wp2_with fail;clear r0 r1 r2 r3 f0 f1 f2 f3;refine c2.calls0 ?_;intro w2 h2;have HQ2:=lH ((cells4_new w1 (.int .i64 (c:Int)) (.int .i64 (t:Int)) (.bool b) (.int .i64 0) 126).below _ h2 (by simp));have HR2:=lH ((cells4.alloc HR1.out hlt _).below _ h2 (by simp; omega));have H2:Hid (Since w w2):=lH (Since.step (H1.out.alloc _) h2);have hlt2:w1.heap.size < w2.heap.size:=by have h9:=Below.size h2; simp at h9; omega
 clear h2 HR1 H1;obtain ⟨⟨r0,r1,r2,r3⟩,f0,f1,f2,f3⟩:=HR2.out;obtain ⟨⟨q0,q1,q2,q3⟩,g0,g1,g2,g3⟩:=HQ2.out;go_wp2_with fail
 go_quiet (fail)
 go_wp2_with fail;obtain ⟨s0,s1,s2,s3⟩:=set4 (W:=w2.drewN nq) r0 r1 r2 r3 (.int .i64 0) (.int .i64 0) (.bool false) (.int .i64 0);exact bodyPost_ret (v:=decV (none0,0,5)) (by simp [results,Tryz.results93,go_sem,s0,s1,s2,s3]; try rfl) rfl ⟨rfl,Since4 (Since.drewN H2.out nq) (Nat.le_refl _)⟩
set_option maxHeartbeats 4000000 in
theorem rd_128 (s:ByteArray) (_hm:s.size <= 1000000) (c t:Nat) (b:Bool) (k:Nat) (hk1:1 <= k) (_hk:k <= s.size) (A:ByteArray) (hA:A.size <= 7) (hA1:1 <= A.size) (c1:Mak 130 #[.string s] (.tuple #[.agg #[.int .i64 (c:Int),.int .i64 (t:Int),.bool b,.int .i64 0],.int .i64 (k:Int)])) (c2:Mak 131 #[.agg #[.int .i64 (c:Int),.int .i64 (t:Int),.bool b,.int .i64 0]] (.tuple #[.string A,.int .i64 0]))
   (he:A.extract 0 (A.size - 1) = s.extract 0 k) (hlt0:k < s.size) (h128:s[k].toNat = 128):Mak 93 #[.string s] (decV (none0,0,5)):=by
 intro w;have hk0:((k:Int) == 0) = false:=by rw [beq_eq_false_iff_ne]; omega
 have hki:(k:Int) <= (s.size:Int):=by omega
 have hq:=str_eq_f he;clear he;obtain ⟨j,hj⟩:∃ j,A.size = j + 1:=⟨A.size - 1,by omega⟩
 rw [hj,Nat.add_sub_cancel] at hq;have hji:(A.size:Int) - 1 = (j:Int):=by omega
 have hjl:(j:Int) <= (A.size:Int):=by omega
 have hke:((k:Int) == (s.size:Int)) = false:=by rw [beq_eq_false_iff_ne]; omega
 have hkl:(k:Int) < (s.size:Int):=by omega
 have hv:(s[k].toNat:Int) = 128:=by omega
 go_enter Tryz.func93,Tryz.ntmps93
 go_wp2_with fail;refine c1.calls0 ?_;intro w1 h1;have HR1:=lH ((cells4_new w (.int .i64 0) (.int .i64 0) (.bool false) (.int .i64 0) 126).below _ h1 (by simp));have H1:Hid (Since w w1):=lH (Since.step ((Since.refl w).alloc _) h1);have hlt:w.heap.size < w1.heap.size:=by have h9:=Below.size h1; simp at h9; omega
 clear h1;obtain ⟨⟨r0,r1,r2,r3⟩,f0,f1,f2,f3⟩:=HR1.out;go_wp2_with fail;clear r0 r1 r2 r3 f0 f1 f2 f3;refine c2.calls0 ?_;intro w2 h2;have HQ2:=lH ((cells4_new w1 (.int .i64 (c:Int)) (.int .i64 (t:Int)) (.bool b) (.int .i64 0) 126).below _ h2 (by simp));have HR2:=lH ((cells4.alloc HR1.out hlt _).below _ h2 (by simp; omega));have H2:Hid (Since w w2):=lH (Since.step (H1.out.alloc _) h2);have hlt2:w1.heap.size < w2.heap.size:=by have h9:=Below.size h2; simp at h9; omega
 clear h2 HR1 H1;obtain ⟨⟨r0,r1,r2,r3⟩,f0,f1,f2,f3⟩:=HR2.out;obtain ⟨⟨q0,q1,q2,q3⟩,g0,g1,g2,g3⟩:=HQ2.out;go_wp2_with fail
 go_quiet (fail)
 go_wp2_with fail;obtain ⟨s0,s1,s2,s3⟩:=set4 (W:=w2.drewN nq) r0 r1 r2 r3 (.int .i64 0) (.int .i64 0) (.bool false) (.int .i64 0);exact bodyPost_ret (v:=decV (none0,0,5)) (by simp [results,Tryz.results93,go_sem,s0,s1,s2,s3]; try rfl) rfl ⟨rfl,Since4 (Since.drewN H2.out nq) (Nat.le_refl _)⟩
set_option maxHeartbeats 4000000 in
theorem rd_size (s:ByteArray) (_hm:s.size <= 1000000) (c t:Nat) (b:Bool) (k:Nat) (hk1:1 <= k) (_hk:k <= s.size) (A:ByteArray) (hA:A.size <= 7) (hA1:1 <= A.size) (c1:Mak 130 #[.string s] (.tuple #[.agg #[.int .i64 (c:Int),.int .i64 (t:Int),.bool b,.int .i64 0],.int .i64 (k:Int)])) (c2:Mak 131 #[.agg #[.int .i64 (c:Int),.int .i64 (t:Int),.bool b,.int .i64 0]] (.tuple #[.string A,.int .i64 0]))
   (he:A.extract 0 (A.size - 1) = s.extract 0 k) (hlt0:k < s.size) (h130:130 < s[k].toNat):Mak 93 #[.string s] (decV (none0,0,4)):=by
 intro w;have hk0:((k:Int) == 0) = false:=by rw [beq_eq_false_iff_ne]; omega
 have hki:(k:Int) <= (s.size:Int):=by omega
 have hq:=str_eq_f he;clear he;obtain ⟨j,hj⟩:∃ j,A.size = j + 1:=⟨A.size - 1,by omega⟩
 rw [hj,Nat.add_sub_cancel] at hq;have hji:(A.size:Int) - 1 = (j:Int):=by omega
 have hjl:(j:Int) <= (A.size:Int):=by omega
 have hke:((k:Int) == (s.size:Int)) = false:=by rw [beq_eq_false_iff_ne]; omega
 have hkl:(k:Int) < (s.size:Int):=by omega
 have hv:((s[k].toNat:Int) == 128) = false:=by rw [beq_eq_false_iff_ne]; omega
 have hv2:130 < (s[k].toNat:Int):=by omega
 go_enter Tryz.func93,Tryz.ntmps93
 go_wp2_with fail;refine c1.calls0 ?_;intro w1 h1;have HR1:=lH ((cells4_new w (.int .i64 0) (.int .i64 0) (.bool false) (.int .i64 0) 126).below _ h1 (by simp));have H1:Hid (Since w w1):=lH (Since.step ((Since.refl w).alloc _) h1);have hlt:w.heap.size < w1.heap.size:=by have h9:=Below.size h1; simp at h9; omega
 clear h1;obtain ⟨⟨r0,r1,r2,r3⟩,f0,f1,f2,f3⟩:=HR1.out;go_wp2_with fail;clear r0 r1 r2 r3 f0 f1 f2 f3;refine c2.calls0 ?_;intro w2 h2;have HQ2:=lH ((cells4_new w1 (.int .i64 (c:Int)) (.int .i64 (t:Int)) (.bool b) (.int .i64 0) 126).below _ h2 (by simp));have HR2:=lH ((cells4.alloc HR1.out hlt _).below _ h2 (by simp; omega));have H2:Hid (Since w w2):=lH (Since.step (H1.out.alloc _) h2);have hlt2:w1.heap.size < w2.heap.size:=by have h9:=Below.size h2; simp at h9; omega
 clear h2 HR1 H1;obtain ⟨⟨r0,r1,r2,r3⟩,f0,f1,f2,f3⟩:=HR2.out;obtain ⟨⟨q0,q1,q2,q3⟩,g0,g1,g2,g3⟩:=HQ2.out;go_wp2_with fail
 go_quiet (fail)
 go_wp2_with fail;obtain ⟨s0,s1,s2,s3⟩:=set4 (W:=w2.drewN nq) r0 r1 r2 r3 (.int .i64 0) (.int .i64 0) (.bool false) (.int .i64 0);exact bodyPost_ret (v:=decV (none0,0,4)) (by simp [results,Tryz.results93,go_sem,s0,s1,s2,s3]; try rfl) rfl ⟨rfl,Since4 (Since.drewN H2.out nq) (Nat.le_refl _)⟩
end RefHead
namespace RefHead
open Head
set_option maxHeartbeats 4000000 in
theorem rd_few
   (s:ByteArray) (hm:s.size <= 1000000) (c t:Nat) (b:Bool) (k:Nat) (hk1:1 <= k) (_hk:k <= s.size) (A:ByteArray) (hA:A.size <= 7) (hA1:1 <= A.size) (c1:Mak 130 #[.string s] (.tuple #[.agg #[.int .i64 (c:Int),.int .i64 (t:Int),.bool b,.int .i64 0],.int .i64 (k:Int)])) (c2:Mak 131 #[.agg #[.int .i64 (c:Int),.int .i64 (t:Int),.bool b,.int .i64 0]] (.tuple #[.string A,.int .i64 0]))
     (he:A.extract 0 (A.size - 1) = s.extract 0 k) (hlt0:k < s.size)
   (m:Nat) (hm1:1 <= m) (hm2:m <= 2) (hv:s[k].toNat = 128 + m) (hfew:s.size < k + 1 + m):Mak 93 #[.string s] (decV (none0,0,5)):=by
 intro w;have hk0:((k:Int) == 0) = false:=by rw [beq_eq_false_iff_ne]; omega
 have hki:(k:Int) <= (s.size:Int):=by omega
 have hq:=str_eq_f he;clear he;obtain ⟨j,hj⟩:∃ j,A.size = j + 1:=⟨A.size - 1,by omega⟩
 rw [hj,Nat.add_sub_cancel] at hq;have hji:(A.size:Int) - 1 = (j:Int):=by omega
 have hjl:(j:Int) <= (A.size:Int):=by omega
 have hke:((k:Int) == (s.size:Int)) = false:=by rw [beq_eq_false_iff_ne]; omega
 have hkl:(k:Int) < (s.size:Int):=by omega
 have hv2:((s[k].toNat:Int) == 128) = false:=by rw [beq_eq_false_iff_ne]; omega
 have hv3:(s[k].toNat:Int) <= 130:=by omega
 have hv4:128 < (s[k].toNat:Int):=by omega
 have hmi:(s[k].toNat:Int) - 128 = (m:Int):=by omega
 have hfi:(s.size:Int) < (k:Int) + 1 + (m:Int):=by omega
 clear hv hfew
 go_enter Tryz.func93,Tryz.ntmps93
 go_wp2_with fail;refine c1.calls0 ?_;intro w1 h1;have HR1:=lH ((cells4_new w (.int .i64 0) (.int .i64 0) (.bool false) (.int .i64 0) 126).below _ h1 (by simp));have H1:Hid (Since w w1):=lH (Since.step ((Since.refl w).alloc _) h1);have hlt:w.heap.size < w1.heap.size:=by have h9:=Below.size h1; simp at h9; omega
 clear h1;obtain ⟨⟨r0,r1,r2,r3⟩,f0,f1,f2,f3⟩:=HR1.out;go_wp2_with fail;clear r0 r1 r2 r3 f0 f1 f2 f3;refine c2.calls0 ?_;intro w2 h2;have HQ2:=lH ((cells4_new w1 (.int .i64 (c:Int)) (.int .i64 (t:Int)) (.bool b) (.int .i64 0) 126).below _ h2 (by simp));have HR2:=lH ((cells4.alloc HR1.out hlt _).below _ h2 (by simp; omega));have H2:Hid (Since w w2):=lH (Since.step (H1.out.alloc _) h2);have hlt2:w1.heap.size < w2.heap.size:=by have h9:=Below.size h2; simp at h9; omega
 clear h2 HR1 H1;obtain ⟨⟨r0,r1,r2,r3⟩,f0,f1,f2,f3⟩:=HR2.out;obtain ⟨⟨q0,q1,q2,q3⟩,g0,g1,g2,g3⟩:=HQ2.out;go_wp2_with fail
 go_quiet (fail)
 go_wp2_with fail;obtain ⟨s0,s1,s2,s3⟩:=set4 (W:=w2.drewN nq) r0 r1 r2 r3 (.int .i64 0) (.int .i64 0) (.bool false) (.int .i64 0);exact bodyPost_ret (v:=decV (none0,0,5)) (by simp [results,Tryz.results93,go_sem,s0,s1,s2,s3]; try rfl) rfl ⟨rfl,Since4 (Since.drewN H2.out nq) (Nat.le_refl _)⟩
set_option maxHeartbeats 4000000 in
theorem rd_one_eq
   (s:ByteArray) (hm:s.size <= 1000000) (c t:Nat) (b:Bool) (k:Nat) (hk1:1 <= k) (_hk:k <= s.size) (A:ByteArray) (hA:A.size <= 7) (hA1:1 <= A.size) (c1:Mak 130 #[.string s] (.tuple #[.agg #[.int .i64 (c:Int),.int .i64 (t:Int),.bool b,.int .i64 0],.int .i64 (k:Int)])) (c2:Mak 131 #[.agg #[.int .i64 (c:Int),.int .i64 (t:Int),.bool b,.int .i64 0]] (.tuple #[.string A,.int .i64 0]))
     (he:A.extract 0 (A.size - 1) = s.extract 0 k) (hlt0:k < s.size)
   (hv:s[k].toNat < 128) (B:ByteArray) (_hB:B.size <= 7) (c3:Mak 131 #[.agg #[.int .i64 (c:Int),.int .i64 (t:Int),.bool b,.int .i64 (s[k].toNat:Int)]] (.tuple #[.string B,.int .i64 0]))
   (hne:B = s.extract 0 (k + 1)):Mak 93 #[.string s] (decV (⟨c,t,b,s[k].toNat⟩,B.size,0)):=by
 intro w;have hk0:((k:Int) == 0) = false:=by rw [beq_eq_false_iff_ne]; omega
 have hki:(k:Int) <= (s.size:Int):=by omega
 have hq:=str_eq_f he;clear he;obtain ⟨j,hj⟩:∃ j,A.size = j + 1:=⟨A.size - 1,by omega⟩
 rw [hj,Nat.add_sub_cancel] at hq;have hji:(A.size:Int) - 1 = (j:Int):=by omega
 have hjl:(j:Int) <= (A.size:Int):=by omega
 have hke:((k:Int) == (s.size:Int)) = false:=by rw [beq_eq_false_iff_ne]; omega
 have hkl:(k:Int) < (s.size:Int):=by omega
 have hv2:((s[k].toNat:Int) == 128) = false:=by rw [beq_eq_false_iff_ne]; omega
 have hv3:(s[k].toNat:Int) <= 130:=by omega
 have hv4:¬ 128 < (s[k].toNat:Int):=by omega
 have hfi:¬ (s.size:Int) < (k:Int) + 1:=by omega
 have hsi:(k:Int) + 1 <= (s.size:Int):=by omega
 clear hv;have hqe:=str_eq_f hne;clear hne
 go_enter Tryz.func93,Tryz.ntmps93
 go_wp2_with fail;refine c1.calls0 ?_;intro w1 h1;have HR1:=lH ((cells4_new w (.int .i64 0) (.int .i64 0) (.bool false) (.int .i64 0) 126).below _ h1 (by simp));have H1:Hid (Since w w1):=lH (Since.step ((Since.refl w).alloc _) h1);have hlt:w.heap.size < w1.heap.size:=by have h9:=Below.size h1; simp at h9; omega
 clear h1;obtain ⟨⟨r0,r1,r2,r3⟩,f0,f1,f2,f3⟩:=HR1.out;go_wp2_with fail;clear r0 r1 r2 r3 f0 f1 f2 f3;refine c2.calls0 ?_;intro w2 h2;have HQ2:=lH ((cells4_new w1 (.int .i64 (c:Int)) (.int .i64 (t:Int)) (.bool b) (.int .i64 0) 126).below _ h2 (by simp));have HR2:=lH ((cells4.alloc HR1.out hlt _).below _ h2 (by simp; omega));have H2:Hid (Since w w2):=lH (Since.step (H1.out.alloc _) h2);have hlt2:w1.heap.size < w2.heap.size:=by have h9:=Below.size h2; simp at h9; omega
 clear h2 HR1 H1;obtain ⟨⟨r0,r1,r2,r3⟩,f0,f1,f2,f3⟩:=HR2.out;obtain ⟨⟨q0,q1,q2,q3⟩,g0,g1,g2,g3⟩:=HQ2.out;go_wp2_with fail
 go_quiet (fail)
 go_wp2_with fail;have HQ3:Hid (cells4 ((w2.drewN nq).setCell ⟨w1.heap.size,3,none⟩ (.int .i64 (s[k].toNat:Int))) w1.heap.size (.int .i64 (c:Int)) (.int .i64 (t:Int)) (.bool b) (.int .i64 (s[k].toNat:Int))):=lH (cells4.set3 (w:=w2.drewN nq) HQ2.out _);have HR3:Hid (cells4 ((w2.drewN nq).setCell ⟨w1.heap.size,3,none⟩ (.int .i64 (s[k].toNat:Int))) w.heap.size (.int .i64 0) (.int .i64 0) (.bool false) (.int .i64 0)):=lH (cells4.other (w:=w2.drewN nq) HR2.out (by omega) 3 _);have H3:Hid (Since w ((w2.drewN nq).setCell ⟨w1.heap.size,3,none⟩ (.int .i64 (s[k].toNat:Int)))):=lH (Below.setCell (p:=⟨w1.heap.size,3,none⟩) (Since.drewN H2.out nq) (Nat.le_of_lt hlt) _);have hz3:((w2.drewN nq).setCell ⟨w1.heap.size,3,none⟩ (.int .i64 (s[k].toNat:Int))).heap.size = w2.heap.size:=by simp
 clear r0 r1 r2 r3 f0 f1 f2 f3 q0 q1 q2 q3 g0 g1 g2 g3 HQ2 HR2 H2;refine (c3).calls0 ?_;intro w3 h3;have HQ4:=lH (HQ3.out.below _ h3 (by rw [hz3]; omega));have HR4:=lH (HR3.out.below _ h3 (by rw [hz3]; omega));have H4:Hid (Since w w3):=lH (Since.step H3.out h3);have hlt4:w1.heap.size < w3.heap.size:=by have h9:=Below.size h3; rw [hz3] at h9; omega
 clear h3 HQ3 HR3 H3;obtain ⟨⟨r0,r1,r2,r3⟩,f0,f1,f2,f3⟩:=HR4.out;obtain ⟨⟨q0,q1,q2,q3⟩,g0,g1,g2,g3⟩:=HQ4.out;go_wp2_with fail;obtain ⟨s0,s1,s2,s3⟩:=set4 r0 r1 r2 r3 (.int .i64 (c:Int)) (.int .i64 (t:Int)) (.bool b) (.int .i64 (s[k].toNat:Int));exact bodyPost_ret (v:=decV (⟨c,t,b,s[k].toNat⟩,B.size,0)) (by simp [results,Tryz.results93,go_sem,s0,s1,s2,s3]; try rfl) rfl ⟨rfl,Since4 H4.out (Nat.le_refl _)⟩
set_option maxHeartbeats 4000000 in
theorem rd_more_ne
   (s:ByteArray) (hm:s.size <= 1000000) (c t:Nat) (b:Bool) (k:Nat) (hk1:1 <= k) (_hk:k <= s.size) (A:ByteArray) (hA:A.size <= 7) (hA1:1 <= A.size) (c1:Mak 130 #[.string s] (.tuple #[.agg #[.int .i64 (c:Int),.int .i64 (t:Int),.bool b,.int .i64 0],.int .i64 (k:Int)])) (c2:Mak 131 #[.agg #[.int .i64 (c:Int),.int .i64 (t:Int),.bool b,.int .i64 0]] (.tuple #[.string A,.int .i64 0]))
     (he:A.extract 0 (A.size - 1) = s.extract 0 k) (hlt0:k < s.size)
   (m:Nat) (hm1:1 <= m) (hm2:m <= 2) (hv:s[k].toNat = 128 + m) (hfew:k + 1 + m <= s.size) (L:Nat) (hL:L <= 65535) (cg:Ret 132 #[.string (s.extract (k + 1) (k + 1 + m))] (.tuple #[.int .u64 (L:Int),.bool true])) (B:ByteArray) (_hB:B.size <= 7) (c3:Mak 131 #[.agg #[.int .i64 (c:Int),.int .i64 (t:Int),.bool b,.int .i64 (L:Int)]] (.tuple #[.string B,.int .i64 0]))
   (hne:B ≠ s.extract 0 (k + 1 + m)):Mak 93 #[.string s] (decV (none0,0,5)):=by
 intro w;have hk0:((k:Int) == 0) = false:=by rw [beq_eq_false_iff_ne]; omega
 have hki:(k:Int) <= (s.size:Int):=by omega
 have hq:=str_eq_f he;clear he;obtain ⟨j,hj⟩:∃ j,A.size = j + 1:=⟨A.size - 1,by omega⟩
 rw [hj,Nat.add_sub_cancel] at hq;have hji:(A.size:Int) - 1 = (j:Int):=by omega
 have hjl:(j:Int) <= (A.size:Int):=by omega
 have hke:((k:Int) == (s.size:Int)) = false:=by rw [beq_eq_false_iff_ne]; omega
 have hkl:(k:Int) < (s.size:Int):=by omega
 have hv2:((s[k].toNat:Int) == 128) = false:=by rw [beq_eq_false_iff_ne]; omega
 have hv3:(s[k].toNat:Int) <= 130:=by omega
 have hv4:128 < (s[k].toNat:Int):=by omega
 have hmi:(s[k].toNat:Int) - 128 = (m:Int):=by omega
 have hfi:¬ (s.size:Int) < (k:Int) + 1 + (m:Int):=by omega
 have hsi:(k:Int) + 1 + (m:Int) <= (s.size:Int):=by omega
 have hmp:0 < (m:Int):=by omega
 clear hv hfew;have hqe:=str_ne_t hne;clear hne
 go_enter Tryz.func93,Tryz.ntmps93
 go_wp2_with fail;refine c1.calls0 ?_;intro w1 h1;have HR1:=lH ((cells4_new w (.int .i64 0) (.int .i64 0) (.bool false) (.int .i64 0) 126).below _ h1 (by simp));have H1:Hid (Since w w1):=lH (Since.step ((Since.refl w).alloc _) h1);have hlt:w.heap.size < w1.heap.size:=by have h9:=Below.size h1; simp at h9; omega
 clear h1;obtain ⟨⟨r0,r1,r2,r3⟩,f0,f1,f2,f3⟩:=HR1.out;go_wp2_with fail;clear r0 r1 r2 r3 f0 f1 f2 f3;refine c2.calls0 ?_;intro w2 h2;have HQ2:=lH ((cells4_new w1 (.int .i64 (c:Int)) (.int .i64 (t:Int)) (.bool b) (.int .i64 0) 126).below _ h2 (by simp));have HR2:=lH ((cells4.alloc HR1.out hlt _).below _ h2 (by simp; omega));have H2:Hid (Since w w2):=lH (Since.step (H1.out.alloc _) h2);have hlt2:w1.heap.size < w2.heap.size:=by have h9:=Below.size h2; simp at h9; omega
 clear h2 HR1 H1;obtain ⟨⟨r0,r1,r2,r3⟩,f0,f1,f2,f3⟩:=HR2.out;obtain ⟨⟨q0,q1,q2,q3⟩,g0,g1,g2,g3⟩:=HQ2.out;go_wp2_with fail
 go_quiet (fail)
 go_wp2_with fail;refine cg.calls ?_;go_wp2_with fail;have HQ3:Hid (cells4 (((w2.drewN nq).setCell ⟨w1.heap.size,3,none⟩ (.int .i64 (s[k].toNat:Int))).setCell ⟨w1.heap.size,3,none⟩ (.int .i64 (L:Int))) w1.heap.size (.int .i64 (c:Int)) (.int .i64 (t:Int)) (.bool b) (.int .i64 (L:Int))):=lH (cells4.set3 (cells4.set3 (w:=w2.drewN nq) HQ2.out _) _);have HR3:Hid (cells4 (((w2.drewN nq).setCell ⟨w1.heap.size,3,none⟩ (.int .i64 (s[k].toNat:Int))).setCell ⟨w1.heap.size,3,none⟩ (.int .i64 (L:Int))) w.heap.size (.int .i64 0) (.int .i64 0) (.bool false) (.int .i64 0)):=lH (cells4.other (cells4.other (w:=w2.drewN nq) HR2.out (by omega) 3 _) (by omega) 3 _);have H3:Hid (Since w (((w2.drewN nq).setCell ⟨w1.heap.size,3,none⟩ (.int .i64 (s[k].toNat:Int))).setCell ⟨w1.heap.size,3,none⟩ (.int .i64 (L:Int)))):=lH (Below.setCell (p:=⟨w1.heap.size,3,none⟩) (Below.setCell (p:=⟨w1.heap.size,3,none⟩) (Since.drewN H2.out nq) (Nat.le_of_lt hlt) _) (Nat.le_of_lt hlt) _);have hz3:(((w2.drewN nq).setCell ⟨w1.heap.size,3,none⟩ (.int .i64 (s[k].toNat:Int))).setCell ⟨w1.heap.size,3,none⟩ (.int .i64 (L:Int))).heap.size = w2.heap.size:=by simp
 clear r0 r1 r2 r3 f0 f1 f2 f3 q0 q1 q2 q3 g0 g1 g2 g3 HQ2 HR2 H2;refine (c3).calls0 ?_;intro w3 h3;have HQ4:=lH (HQ3.out.below _ h3 (by rw [hz3]; omega));have HR4:=lH (HR3.out.below _ h3 (by rw [hz3]; omega));have H4:Hid (Since w w3):=lH (Since.step H3.out h3);have hlt4:w1.heap.size < w3.heap.size:=by have h9:=Below.size h3; rw [hz3] at h9; omega
 clear h3 HQ3 HR3 H3;obtain ⟨⟨r0,r1,r2,r3⟩,f0,f1,f2,f3⟩:=HR4.out;obtain ⟨⟨q0,q1,q2,q3⟩,g0,g1,g2,g3⟩:=HQ4.out;go_wp2_with fail;obtain ⟨s0,s1,s2,s3⟩:=set4 r0 r1 r2 r3 (.int .i64 0) (.int .i64 0) (.bool false) (.int .i64 0);exact bodyPost_ret (v:=decV (none0,0,5)) (by simp [results,Tryz.results93,go_sem,s0,s1,s2,s3]; try rfl) rfl ⟨rfl,Since4 H4.out (Nat.le_refl _)⟩
set_option maxHeartbeats 4000000 in
theorem rd_more_eq
   (s:ByteArray) (hm:s.size <= 1000000) (c t:Nat) (b:Bool) (k:Nat) (hk1:1 <= k) (_hk:k <= s.size) (A:ByteArray) (hA:A.size <= 7) (hA1:1 <= A.size) (c1:Mak 130 #[.string s] (.tuple #[.agg #[.int .i64 (c:Int),.int .i64 (t:Int),.bool b,.int .i64 0],.int .i64 (k:Int)])) (c2:Mak 131 #[.agg #[.int .i64 (c:Int),.int .i64 (t:Int),.bool b,.int .i64 0]] (.tuple #[.string A,.int .i64 0]))
     (he:A.extract 0 (A.size - 1) = s.extract 0 k) (hlt0:k < s.size)
   (m:Nat) (hm1:1 <= m) (hm2:m <= 2) (hv:s[k].toNat = 128 + m) (hfew:k + 1 + m <= s.size) (L:Nat) (hL:L <= 65535) (cg:Ret 132 #[.string (s.extract (k + 1) (k + 1 + m))] (.tuple #[.int .u64 (L:Int),.bool true])) (B:ByteArray) (_hB:B.size <= 7) (c3:Mak 131 #[.agg #[.int .i64 (c:Int),.int .i64 (t:Int),.bool b,.int .i64 (L:Int)]] (.tuple #[.string B,.int .i64 0]))
   (hne:B = s.extract 0 (k + 1 + m)):Mak 93 #[.string s] (decV (⟨c,t,b,L⟩,B.size,0)):=by
 intro w;have hk0:((k:Int) == 0) = false:=by rw [beq_eq_false_iff_ne]; omega
 have hki:(k:Int) <= (s.size:Int):=by omega
 have hq:=str_eq_f he;clear he;obtain ⟨j,hj⟩:∃ j,A.size = j + 1:=⟨A.size - 1,by omega⟩
 rw [hj,Nat.add_sub_cancel] at hq;have hji:(A.size:Int) - 1 = (j:Int):=by omega
 have hjl:(j:Int) <= (A.size:Int):=by omega
 have hke:((k:Int) == (s.size:Int)) = false:=by rw [beq_eq_false_iff_ne]; omega
 have hkl:(k:Int) < (s.size:Int):=by omega
 have hv2:((s[k].toNat:Int) == 128) = false:=by rw [beq_eq_false_iff_ne]; omega
 have hv3:(s[k].toNat:Int) <= 130:=by omega
 have hv4:128 < (s[k].toNat:Int):=by omega
 have hmi:(s[k].toNat:Int) - 128 = (m:Int):=by omega
 have hfi:¬ (s.size:Int) < (k:Int) + 1 + (m:Int):=by omega
 have hsi:(k:Int) + 1 + (m:Int) <= (s.size:Int):=by omega
 have hmp:0 < (m:Int):=by omega
 clear hv hfew;have hqe:=str_eq_f hne;clear hne
 go_enter Tryz.func93,Tryz.ntmps93
 go_wp2_with fail;refine c1.calls0 ?_;intro w1 h1;have HR1:=lH ((cells4_new w (.int .i64 0) (.int .i64 0) (.bool false) (.int .i64 0) 126).below _ h1 (by simp));have H1:Hid (Since w w1):=lH (Since.step ((Since.refl w).alloc _) h1);have hlt:w.heap.size < w1.heap.size:=by have h9:=Below.size h1; simp at h9; omega
 clear h1;obtain ⟨⟨r0,r1,r2,r3⟩,f0,f1,f2,f3⟩:=HR1.out;go_wp2_with fail;clear r0 r1 r2 r3 f0 f1 f2 f3;refine c2.calls0 ?_;intro w2 h2;have HQ2:=lH ((cells4_new w1 (.int .i64 (c:Int)) (.int .i64 (t:Int)) (.bool b) (.int .i64 0) 126).below _ h2 (by simp));have HR2:=lH ((cells4.alloc HR1.out hlt _).below _ h2 (by simp; omega));have H2:Hid (Since w w2):=lH (Since.step (H1.out.alloc _) h2);have hlt2:w1.heap.size < w2.heap.size:=by have h9:=Below.size h2; simp at h9; omega
 clear h2 HR1 H1;obtain ⟨⟨r0,r1,r2,r3⟩,f0,f1,f2,f3⟩:=HR2.out;obtain ⟨⟨q0,q1,q2,q3⟩,g0,g1,g2,g3⟩:=HQ2.out;go_wp2_with fail
 go_quiet (fail)
 go_wp2_with fail;refine cg.calls ?_;go_wp2_with fail;have HQ3:Hid (cells4 (((w2.drewN nq).setCell ⟨w1.heap.size,3,none⟩ (.int .i64 (s[k].toNat:Int))).setCell ⟨w1.heap.size,3,none⟩ (.int .i64 (L:Int))) w1.heap.size (.int .i64 (c:Int)) (.int .i64 (t:Int)) (.bool b) (.int .i64 (L:Int))):=lH (cells4.set3 (cells4.set3 (w:=w2.drewN nq) HQ2.out _) _);have HR3:Hid (cells4 (((w2.drewN nq).setCell ⟨w1.heap.size,3,none⟩ (.int .i64 (s[k].toNat:Int))).setCell ⟨w1.heap.size,3,none⟩ (.int .i64 (L:Int))) w.heap.size (.int .i64 0) (.int .i64 0) (.bool false) (.int .i64 0)):=lH (cells4.other (cells4.other (w:=w2.drewN nq) HR2.out (by omega) 3 _) (by omega) 3 _);have H3:Hid (Since w (((w2.drewN nq).setCell ⟨w1.heap.size,3,none⟩ (.int .i64 (s[k].toNat:Int))).setCell ⟨w1.heap.size,3,none⟩ (.int .i64 (L:Int)))):=lH (Below.setCell (p:=⟨w1.heap.size,3,none⟩) (Below.setCell (p:=⟨w1.heap.size,3,none⟩) (Since.drewN H2.out nq) (Nat.le_of_lt hlt) _) (Nat.le_of_lt hlt) _);have hz3:(((w2.drewN nq).setCell ⟨w1.heap.size,3,none⟩ (.int .i64 (s[k].toNat:Int))).setCell ⟨w1.heap.size,3,none⟩ (.int .i64 (L:Int))).heap.size = w2.heap.size:=by simp
 clear r0 r1 r2 r3 f0 f1 f2 f3 q0 q1 q2 q3 g0 g1 g2 g3 HQ2 HR2 H2;refine (c3).calls0 ?_;intro w3 h3;have HQ4:=lH (HQ3.out.below _ h3 (by rw [hz3]; omega));have HR4:=lH (HR3.out.below _ h3 (by rw [hz3]; omega));have H4:Hid (Since w w3):=lH (Since.step H3.out h3);have hlt4:w1.heap.size < w3.heap.size:=by have h9:=Below.size h3; rw [hz3] at h9; omega
 clear h3 HQ3 HR3 H3;obtain ⟨⟨r0,r1,r2,r3⟩,f0,f1,f2,f3⟩:=HR4.out;obtain ⟨⟨q0,q1,q2,q3⟩,g0,g1,g2,g3⟩:=HQ4.out;go_wp2_with fail;obtain ⟨s0,s1,s2,s3⟩:=set4 r0 r1 r2 r3 (.int .i64 (c:Int)) (.int .i64 (t:Int)) (.bool b) (.int .i64 (L:Int));exact bodyPost_ret (v:=decV (⟨c,t,b,L⟩,B.size,0)) (by simp [results,Tryz.results93,go_sem,s0,s1,s2,s3]; try rfl) rfl ⟨rfl,Since4 H4.out (Nat.le_refl _)⟩
end RefHead
namespace RefHead
open Head
theorem encL_0 (c t:Nat) (b:Bool):encL c t b 0 = tagL c t b ++ [0]:=rfl
theorem cut_0 (c t:Nat) (b:Bool):(bs (encL c t b 0)).extract 0 ((bs (encL c t b 0)).size - 1) = bs (tagL c t b):=by
 apply ba_ext
 rw [ext_list,list_bs,list_bs,size_bs,encL_0];simp
theorem ext_eq (s:ByteArray) (k:Nat) (l:List UInt8):bs l = s.extract 0 k ↔ l = s.data.toList.take k:=by
 constructor
 · intro h;have h2:=congrArg (fun x:ByteArray => x.data.toList) h;simp only [list_bs,ext_list] at h2
   simpa using h2
 · intro h
   apply ba_ext
   rw [ext_list,list_bs,h];simp
theorem take_split (l:List UInt8) (k n:Nat) (T M:List UInt8) (hT:T = l.take k) (_hk:k <= l.length):T ++ M = l.take (k + n) ↔ M = (l.drop k).take n:=by
 rw [List.take_add,hT,List.append_cancel_left_eq]
theorem lenL_lt (L:Nat) (h:L < 256) (x y z:UInt8) (r:List UInt8):¬ lenL L = x :: List.take 2 (y :: z :: r):=by
 intro hc;have h9:=congrArg List.length hc;unfold lenL at h9;rw [if_pos h] at h9
 split at h9 <;> simp at h9
theorem rd_mak (s:ByteArray) (hm:s.size <= 1000000) (V:Value) (hV:V = decV (dec s.data.toList)):Mak 93 #[.string s] V:=by
 have c1:=rt_mak s hm _ rfl;unfold dec at hV;rw [tagR_r] at hV;cases ht:rtagR s.data.toList with
 | none =>
   rw [ht] at hV c1;rw [hV];exact rd_none s c1
 | some q =>
   obtain ⟨c,t,b,k⟩:=q;rw [ht] at hV c1;simp only [] at hV;obtain ⟨h1,h2,h3,h4,h5⟩:=rtagR_b _ _ _ _ _ ht;have h5':k <= s.size:=h5;have c2:=renc_ok c t 0 b h1 h2 (by decide) _ rfl;have hA:(bs (encL c t b 0)).size <= 7 /\ 1 <= (bs (encL c t b 0)).size:=by
     have:=encL_len c t b 0;rw [size_bs]; omega
   obtain ⟨hA,hA1⟩:=hA
   by_cases he:tagL c t b = s.data.toList.take k
   · rw [if_pos he] at hV;simp only [] at hV;have heq:(bs (encL c t b 0)).extract 0 ((bs (encL c t b 0)).size - 1) = s.extract 0 k:=by rw [cut_0]; exact (ext_eq s k _).2 he
     by_cases hend:k = s.size
     · have hnil:s.data.toList.drop k = []:=List.drop_eq_nil_of_le (by show s.size <= k; omega);rw [hnil] at hV;rw [hV];exact rd_end s hm c t b k h3 h5' _ hA hA1 c1 c2 heq hend
     · have hlt:k < s.size:=by omega
       have hd:=drop_cons s k hlt;rw [hd] at hV;have hx:=s[k].toNat_lt
       by_cases a1:s[k].toNat = 128
       · simp only [lenR,a1,if_true] at hV;rw [hV];exact rd_128 s hm c t b k h3 h5' _ hA hA1 c1 c2 heq hlt a1
       · by_cases a2:s[k].toNat < 128
         · simp only [lenR,a1,a2,if_true,if_false] at hV;have hl:=encL_len c t b s[k].toNat;have c3:=renc_ok c t s[k].toNat b h1 h2 (by omega) _ rfl;have hne:bs (encL c t b s[k].toNat) = s.extract 0 (k + 1):=by
             rw [ext_eq];unfold encL;rw [take_split _ k 1 _ _ he h5,hd];unfold lenL;rw [if_pos a2];simp
           have hg:=rd_one_eq s hm c t b k h3 h5' _ hA hA1 c1 c2 heq hlt a2 _ (by rw [size_bs]; omega) c3 hne;have hsz:(bs (encL c t b s[k].toNat)).size = k + 1:=by rw [hne]; simp; omega
           rw [hsz] at hg;rw [hV];exact hg
         · by_cases a3:130 < s[k].toNat
           · simp only [lenR,a1,a2,a3,if_true,if_false] at hV;rw [hV];exact rd_size s hm c t b k h3 h5' _ hA hA1 c1 c2 heq hlt a3
           · have hmore:∀ m:Nat,1 <= m -> m <= 2 -> s[k].toNat = 128 + m -> ∀ L:Nat,k + 1 + m <= s.size -> L = Oct.numN ((s.data.toList.drop (k + 1)).take m) -> L <= 65535 ->
                 Mak 93 #[.string s] (if lenL L = s[k] :: (s.data.toList.drop (k + 1)).take m then decV (⟨c,t,b,L⟩,k + (1 + m),0) else decV (none0,0,5)):=by
               intro m hm1 hm2 hv L hfew hL hL2;have c3:=renc_ok c t L b h1 h2 hL2 _ rfl;have hl:=encL_len c t b L;have hxl:(s.extract (k + 1) (k + 1 + m)).data.toList = (s.data.toList.drop (k + 1)).take m:=by rw [ext_list]; congr 1; omega
               have hxs:(s.extract (k + 1) (k + 1 + m)).size = m:=by simp; omega
               have cg:Ret 132 #[.string (s.extract (k + 1) (k + 1 + m))] (.tuple #[.int .u64 (L:Int),.bool true]):=fun w => by
                 have h:=RefOct.get_in (s.extract (k + 1) (k + 1 + m)) w (by omega) (by omega)
                 rwa [hxl,<- hL] at h
               have hiff:bs (encL c t b L) = s.extract 0 (k + 1 + m) ↔ lenL L = s[k] :: (s.data.toList.drop (k + 1)).take m:=by
                 rw [ext_eq];unfold encL;rw [show k + 1 + m = k + (1 + m) from by omega,take_split _ k (1 + m) _ _ he h5,hd,Nat.add_comm 1 m,List.take_succ_cons]
               by_cases hc:lenL L = s[k] :: (s.data.toList.drop (k + 1)).take m
               · rw [if_pos hc];have hg:=rd_more_eq s hm c t b k h3 h5' _ hA hA1 c1 c2 heq hlt m hm1 hm2 hv hfew L hL2 cg _ (by rw [size_bs]; omega) c3 (hiff.2 hc);have hsz:(bs (encL c t b L)).size = k + (1 + m):=by rw [hiff.2 hc]; simp; omega
                 rw [hsz] at hg;exact hg
               · rw [if_neg hc];exact rd_more_ne s hm c t b k h3 h5' _ hA hA1 c1 c2 heq hlt m hm1 hm2 hv hfew L hL2 cg _ (by rw [size_bs]; omega) c3 (fun h => hc (hiff.1 h))
             have hxv:s[k] = UInt8.ofNat (s[k].toNat):=by simp
             by_cases a4:s[k].toNat = 129
             · simp only [lenR,a4] at hV
               by_cases hfew:k + 1 + 1 <= s.size
               · have hd2:=drop_cons s (k + 1) (by omega);have hx2:=s[k + 1].toNat_lt;have h:=hmore 1 (by omega) (by omega) a4 s[k + 1].toNat hfew (by rw [hd2]; simp [Oct.numN]) (by omega);rw [hd2] at h hV;have e129:s[k] = 129:=UInt8.toNat_inj.1 a4;simp at hV
                 by_cases hc:128 <= s[k + 1].toNat
                 · rw [if_pos hc] at hV;rw [if_pos (by unfold lenL; rw [if_neg (by omega),if_pos hx2,e129]; simp)] at h;rw [hV];exact h
                 · rw [if_neg hc] at hV;rw [if_neg (by unfold lenL; rw [if_pos (by omega)]; simp)] at h;rw [hV];exact h
               · have hnil:s.data.toList.drop (k + 1) = []:=List.drop_eq_nil_of_le (by show s.size <= k + 1; omega);rw [hnil] at hV;simp at hV;rw [hV];exact rd_few s hm c t b k h3 h5' _ hA hA1 c1 c2 heq hlt 1 (by omega) (by omega) a4 (by omega)
             · have e130:s[k].toNat = 130:=by omega
               simp only [lenR,e130] at hV;have e130':s[k] = 130:=UInt8.toNat_inj.1 e130
               by_cases hfew:k + 1 + 2 <= s.size
               · have hd2:=drop_cons s (k + 1) (by omega);have hd3:=drop_cons s (k + 1 + 1) (by omega);have hx2:=s[k + 1].toNat_lt;have hx3:=s[k + 1 + 1].toNat_lt;have h:=hmore 2 (by omega) (by omega) e130 (256 * s[k + 1].toNat + s[k + 1 + 1].toNat) hfew (by rw [hd2,hd3]; simp [Oct.numN]; omega) (by omega);rw [hd2,hd3] at h hV;simp at hV
                 by_cases hc:256 <= 256 * s[k + 1].toNat + s[k + 1 + 1].toNat
                 · rw [if_pos hc] at hV;rw [if_pos (by unfold lenL; rw [if_neg (by omega),if_neg (by omega),e130',show (256 * s[k + 1].toNat + s[k + 1 + 1].toNat) / 256 = s[k + 1].toNat from by omega,show (256 * s[k + 1].toNat + s[k + 1 + 1].toNat) % 256 = s[k + 1 + 1].toNat from by omega]; simp)] at h;rw [hV];exact h
                 · rw [if_neg hc] at hV;rw [if_neg (lenL_lt _ (by omega) _ _ _ _)] at h;rw [hV];exact h
               · have hV2:V = decV (none0,0,5):=by
                   have hlen:(s.data.toList.drop (k + 1)).length <= 1:=by rw [List.length_drop]; show s.size - (k + 1) <= 1; omega
                   match hdd:s.data.toList.drop (k + 1),hlen with
                   | [],_ => rw [hdd] at hV; simpa using hV
                   | [x],_ => rw [hdd] at hV; simpa using hV
                   | x :: y :: z,hlen => simp at hlen
                 rw [hV2];exact rd_few s hm c t b k h3 h5' _ hA hA1 c1 c2 heq hlt 2 (by omega) (by omega) e130 (by omega)
   · rw [if_neg he] at hV;rw [hV];exact rd_tag s hm c t b k h3 h5' _ hA hA1 c1 c2 (by rw [cut_0]; exact fun h => he ((ext_eq s k _).1 h))
end RefHead
end Go.Proofs.YtpanhhjkecebkaaGreat
