import Derived.Test.YtpanhhjkecebkaaGreatPt20
import Derived.BigQuiet
import Derived.BigGuardPart
import Derived.Test.YtpanhhjkecebkaaGreatPt7
import Derived.Deep.RegionHeld3
import Derived.StillTailTactics
import Derived.Deep.AppendLies
import Derived.Deep.WholeRow
set_option maxRecDepth 100000
namespace Go.Proofs.YtpanhhjkecebkaaGreat
open Go.RowKit
namespace Oct
end Oct
end Go.Proofs.YtpanhhjkecebkaaGreat
set_option maxRecDepth 100000
namespace Go.Proofs.YtpanhhjkecebkaaGreat
open Go.RowKit
namespace Strs
open Oct
theorem sinceN {W0 w:World} (h:Since W0 w) (q:Nat):Since W0 (w.drewN q):=Since.step h ⟨rfl,rfl,rfl,Nat.le_refl _,fun _ _ => rfl⟩
def lastN (s:ByteArray):Nat:=(s.data.toList.getLastD 0).toNat
def BitsOk (s:ByteArray) (u:Int):Prop:=0 <= u /\ u <= 7 /\ (s.size = 0 -> u = 0) /\ (0 < s.size -> lastN s % 2 ^ u.toNat = 0)
instance (s:ByteArray) (u:Int):Decidable (BitsOk s u):=by unfold BitsOk; infer_instance
def bitsS (s:ByteArray) (u:Int):ByteArray:=bs (UInt8.ofNat u.toNat :: s.data.toList)
theorem bitsS_size (s:ByteArray) (u:Int):(bitsS s u).size = s.size + 1:=by
 unfold bitsS;rw [size_bs,List.length_cons]; rfl
theorem lastN_at (s:ByteArray) (k:Nat) (hk:s.size = k + 1) (h:k < s.size):lastN s = s[k].toNat:=by
 unfold lastN;rw [List.getLastD_eq_getLast?,List.getLast?_eq_getElem?,show s.data.toList.length - 1 = k by have:s.size = s.data.toList.length:=rfl; omega];have h2:k < s.data.toList.length:=h;rw [List.getElem?_eq_getElem h2];rfl
theorem and_all:(List.range 256).all (fun x => (List.range 8).all fun u => (bits .and .u8 (x:Int) ((2 ^ u - 1:Nat):Int) != 0) == decide (x % 2 ^ u ≠ 0)) = true:=by decide +kernel
theorem and_mask (x u:Nat) (hx:x < 256) (hu:u < 8):(bits .and .u8 (x:Int) ((2 ^ u - 1:Nat):Int) != 0) = decide (x % 2 ^ u ≠ 0):=by
 have h:=List.all_eq_true.1 and_all x (List.mem_range.2 hx);have h2:=List.all_eq_true.1 h u (List.mem_range.2 hu);exact eq_of_beq h2
def sYes:ByteArray:=⟨#[255]⟩
def sNo:ByteArray:=⟨#[0]⟩
theorem unbool_ret (s:ByteArray):Ret 169 #[.string s] (.tuple #[.bool (decide (s = sYes)),.bool (decide (s = sYes ∨ s = sNo))]):=by
 intro w
 by_cases h1:s = sYes
 · subst h1;rw [decide_eq_true rfl,decide_eq_true (Or.inl rfl)];unfold sYes
   go_enter Tryz.func169,Tryz.ntmps169
   go_wp2_with fail;go_ret2;exact ⟨rfl,rfl⟩
 · by_cases h2:s = sNo
   · subst h2;rw [decide_eq_false h1,decide_eq_true (Or.inr rfl)];unfold sNo;clear h1
     go_enter Tryz.func169,Tryz.ntmps169
     go_wp2_with fail;go_ret2;exact ⟨rfl,rfl⟩
   · rw [decide_eq_false h1,decide_eq_false (by rintro (h | h); exact h1 h; exact h2 h)];have p1:(s.toList == (⟨#[255]⟩:ByteArray).toList) = false:=str_ne_f h1;have p2:(s.toList == (⟨#[0]⟩:ByteArray).toList) = false:=str_ne_f h2;rw [toList_d ⟨#[255]⟩] at p1;rw [toList_d ⟨#[0]⟩] at p2;clear h1 h2
     go_enter Tryz.func169,Tryz.ntmps169
     go_wp2_with fail;go_ret2;exact ⟨rfl,rfl⟩
theorem runbool_ret (s:ByteArray):Ret 173 #[.string s] (.tuple #[.bool (decide (s = sYes)),.bool (decide (s = sYes ∨ s = sNo))]):=by
 intro w
 by_cases h1:s = sYes
 · subst h1;rw [decide_eq_true rfl,decide_eq_true (Or.inl rfl)];unfold sYes
   go_enter Tryz.func173,Tryz.ntmps173
   go_wp2_with fail;go_ret2;exact ⟨rfl,rfl⟩
 · by_cases h2:s = sNo
   · subst h2;rw [decide_eq_false h1,decide_eq_true (Or.inr rfl)];unfold sNo;clear h1
     go_enter Tryz.func173,Tryz.ntmps173
     go_wp2_with fail;go_ret2;exact ⟨rfl,rfl⟩
   · rw [decide_eq_false h1,decide_eq_false (by rintro (h | h); exact h1 h; exact h2 h)];have p1:(s.toList == (⟨#[255]⟩:ByteArray).toList) = false:=str_ne_f h1;have p2:(s.toList == (⟨#[0]⟩:ByteArray).toList) = false:=str_ne_f h2;rw [toList_d ⟨#[255]⟩] at p1;rw [toList_d ⟨#[0]⟩] at p2;clear h1 h2
     go_enter Tryz.func173,Tryz.ntmps173
     go_wp2_with fail;go_ret2;exact ⟨rfl,rfl⟩
theorem bits_bad (s:ByteArray) (u:Int) (h:u < 0 ∨ 7 < u):Ret 179 #[.string s,.int .i64 u] (.tuple #[.string ⟨#[]⟩,.bool false]):=by
 intro w
 by_cases h1:u < 0
 · have t1:decide (u < 0) = true:=decide_eq_true h1;clear h
   go_enter Tryz.func179,Tryz.ntmps179
   go_wp2_with fail;go_ret2;exact ⟨rfl,rfl⟩
 · have t1:decide (u < 0) = false:=decide_eq_false h1;have t2:decide ((7:Int) < u) = true:=decide_eq_true (by omega);clear h
   go_enter Tryz.func179,Tryz.ntmps179
   go_wp2_with fail;go_ret2;exact ⟨rfl,rfl⟩
theorem bits_empty (u:Int) (h0:0 <= u) (h7:u <= 7) (h:u ≠ 0):Ret 179 #[.string ⟨#[]⟩,.int .i64 u] (.tuple #[.string ⟨#[]⟩,.bool false]):=by
 intro w;have t1:decide (u < 0) = false:=decide_eq_false (by omega);have t2:decide ((7:Int) < u) = false:=decide_eq_false (by omega);have t3:(u != 0) = true:=by rw [bne_iff_ne]; exact h
 have t4:(u == 0) = false:=by rw [beq_eq_false_iff_ne]; exact h
 clear h
 go_enter Tryz.func179,Tryz.ntmps179
 go_wp2_with fail;go_ret2;exact ⟨rfl,rfl⟩
theorem bits_none (X:ByteArray) (hX:X = bitsS ⟨#[]⟩ 0):Mak 179 #[.string ⟨#[]⟩,.int .i64 0] (.tuple #[.string X,.bool true]):=by
 intro w;have H0:=lH (Since.refl w);have c1:Mak 109 #[.int .u64 0,.int .i64 1] (.string ⟨#[0]⟩):=fun w => by
   have h:=Oct.put_mid 0 1 w (by decide) (by decide) (by decide) (by decide);exact h
 have hlit:∀ w2:World,Calls Tryz.prog 185 #[.slice (some ⟨w2.heap.size,0,none⟩) 2 2] (w2.alloc (.cells #[.string ⟨#[0]⟩,.string ⟨#[]⟩] 9)) fun e w' => e = .returned (.string X) /\ Below w2.heap.size w2 w':=fun w2 =>
   Oct.join_lit w2 [⟨#[0]⟩,⟨#[]⟩] 2 rfl _ rfl _ (by rw [hX]; rfl) (by rw [hX]; decide) (by decide)
 have HL:=lH hlit;clear hlit hX
 go_enter Tryz.func179,Tryz.ntmps179
 go_wp2_with fail
 go_quiet (fail)
 go_wp2_with fail;refine c1.calls0 ?_;intro w1 h1;have H1:=lH (Since.step (sinceN H0.out nq) h1);clear h1;go_wp2_with fail;refine (HL.out w1).mono ?_;rintro e w2 ⟨rfl,hb⟩;have H2:=lH (Since.step H1.out hb);clear hb;go_wp2_with fail;go_ret2;exact ⟨rfl,H2.out⟩
theorem bits_no_0 (s:ByteArray) (k:Nat) (hk:s.size = k + 1) (hlt:k < s.size) (hm:s.size <= 1000000) (hq:(bits .and .u8 (s[k].toNat:Int) 0 != 0) = true):Mak 179 #[.string s,.int .i64 0] (.tuple #[.string ⟨#[]⟩,.bool false]):=by
 intro w;have H0:=lH (Since.refl w);have b1:=some_bytes s (by omega);have b2:=some_bytes_f s (by omega);have hji:(s.size:Int) - 1 = (k:Int):=by omega
 have hw:IntKind.i64.wrap (k:Int) = (k:Int):=IntWalk.i64_in _ (by omega);clear hk
 go_enter Tryz.func179,Tryz.ntmps179
 go_wp2_with fail
 go_quiet (fail)
 go_wp2_with fail;go_ret2;exact ⟨rfl,sinceN H0.out nq⟩
theorem bits_yes_0 (s:ByteArray) (k:Nat) (hk:s.size = k + 1) (hlt:k < s.size) (hm:s.size <= 1000000) (hq:(bits .and .u8 (s[k].toNat:Int) 0 != 0) = false) (X:ByteArray) (hX:X = bitsS s 0):Mak 179 #[.string s,.int .i64 0] (.tuple #[.string X,.bool true]):=by
 intro w;have H0:=lH (Since.refl w);have b1:=some_bytes s (by omega);have b2:=some_bytes_f s (by omega);have hji:(s.size:Int) - 1 = (k:Int):=by omega
 have hw:IntKind.i64.wrap (k:Int) = (k:Int):=IntWalk.i64_in _ (by omega);have c1:Mak 109 #[.int .u64 0,.int .i64 1] (.string ⟨#[0]⟩):=fun w => by
   have h:=Oct.put_mid 0 1 w (by decide) (by decide) (by decide) (by decide);exact h
 have hlit:∀ w2:World,Calls Tryz.prog 185 #[.slice (some ⟨w2.heap.size,0,none⟩) 2 2] (w2.alloc (.cells #[.string ⟨#[0]⟩,.string s] 9)) fun e w' => e = .returned (.string X) /\ Below w2.heap.size w2 w':=fun w2 =>
   Oct.join_lit w2 [⟨#[0]⟩,s] 2 rfl _ rfl _ (by rw [hX]; unfold bitsS; apply ba_ext; rw [list_bs,list_bs]; simp [Oct.cat]) (by rw [hX,bitsS_size]; omega) (by decide)
 have HL:=lH hlit;clear hlit hX hk
 go_enter Tryz.func179,Tryz.ntmps179
 go_wp2_with fail
 go_quiet (fail)
 go_wp2_with fail;refine c1.calls0 ?_;intro w1 h1;have H1:=lH (Since.step (sinceN H0.out nq) h1);clear h1;go_wp2_with fail;refine (HL.out w1).mono ?_;rintro e w2 ⟨rfl,hb⟩;have H2:=lH (Since.step H1.out hb);clear hb;go_wp2_with fail;go_ret2;exact ⟨rfl,H2.out⟩
theorem bits_no_1 (s:ByteArray) (k:Nat) (hk:s.size = k + 1) (hlt:k < s.size) (hm:s.size <= 1000000) (hq:(bits .and .u8 (s[k].toNat:Int) 1 != 0) = true):Mak 179 #[.string s,.int .i64 1] (.tuple #[.string ⟨#[]⟩,.bool false]):=by
 intro w;have H0:=lH (Since.refl w);have b1:=some_bytes s (by omega);have b2:=some_bytes_f s (by omega);have hji:(s.size:Int) - 1 = (k:Int):=by omega
 have hw:IntKind.i64.wrap (k:Int) = (k:Int):=IntWalk.i64_in _ (by omega);clear hk
 go_enter Tryz.func179,Tryz.ntmps179
 go_wp2_with fail
 go_quiet (fail)
 go_wp2_with fail;go_ret2;exact ⟨rfl,sinceN H0.out nq⟩
theorem bits_yes_1 (s:ByteArray) (k:Nat) (hk:s.size = k + 1) (hlt:k < s.size) (hm:s.size <= 1000000) (hq:(bits .and .u8 (s[k].toNat:Int) 1 != 0) = false) (X:ByteArray) (hX:X = bitsS s 1):Mak 179 #[.string s,.int .i64 1] (.tuple #[.string X,.bool true]):=by
 intro w;have H0:=lH (Since.refl w);have b1:=some_bytes s (by omega);have b2:=some_bytes_f s (by omega);have hji:(s.size:Int) - 1 = (k:Int):=by omega
 have hw:IntKind.i64.wrap (k:Int) = (k:Int):=IntWalk.i64_in _ (by omega);have c1:Mak 109 #[.int .u64 1,.int .i64 1] (.string ⟨#[1]⟩):=fun w => by
   have h:=Oct.put_mid 1 1 w (by decide) (by decide) (by decide) (by decide);exact h
 have hlit:∀ w2:World,Calls Tryz.prog 185 #[.slice (some ⟨w2.heap.size,0,none⟩) 2 2] (w2.alloc (.cells #[.string ⟨#[1]⟩,.string s] 9)) fun e w' => e = .returned (.string X) /\ Below w2.heap.size w2 w':=fun w2 =>
   Oct.join_lit w2 [⟨#[1]⟩,s] 2 rfl _ rfl _ (by rw [hX]; unfold bitsS; apply ba_ext; rw [list_bs,list_bs]; simp [Oct.cat]) (by rw [hX,bitsS_size]; omega) (by decide)
 have HL:=lH hlit;clear hlit hX hk
 go_enter Tryz.func179,Tryz.ntmps179
 go_wp2_with fail
 go_quiet (fail)
 go_wp2_with fail;refine c1.calls0 ?_;intro w1 h1;have H1:=lH (Since.step (sinceN H0.out nq) h1);clear h1;go_wp2_with fail;refine (HL.out w1).mono ?_;rintro e w2 ⟨rfl,hb⟩;have H2:=lH (Since.step H1.out hb);clear hb;go_wp2_with fail;go_ret2;exact ⟨rfl,H2.out⟩
theorem bits_no_2 (s:ByteArray) (k:Nat) (hk:s.size = k + 1) (hlt:k < s.size) (hm:s.size <= 1000000) (hq:(bits .and .u8 (s[k].toNat:Int) 3 != 0) = true):Mak 179 #[.string s,.int .i64 2] (.tuple #[.string ⟨#[]⟩,.bool false]):=by
 intro w;have H0:=lH (Since.refl w);have b1:=some_bytes s (by omega);have b2:=some_bytes_f s (by omega);have hji:(s.size:Int) - 1 = (k:Int):=by omega
 have hw:IntKind.i64.wrap (k:Int) = (k:Int):=IntWalk.i64_in _ (by omega);clear hk
 go_enter Tryz.func179,Tryz.ntmps179
 go_wp2_with fail
 go_quiet (fail)
 go_wp2_with fail;go_ret2;exact ⟨rfl,sinceN H0.out nq⟩
theorem bits_yes_2 (s:ByteArray) (k:Nat) (hk:s.size = k + 1) (hlt:k < s.size) (hm:s.size <= 1000000) (hq:(bits .and .u8 (s[k].toNat:Int) 3 != 0) = false) (X:ByteArray) (hX:X = bitsS s 2):Mak 179 #[.string s,.int .i64 2] (.tuple #[.string X,.bool true]):=by
 intro w;have H0:=lH (Since.refl w);have b1:=some_bytes s (by omega);have b2:=some_bytes_f s (by omega);have hji:(s.size:Int) - 1 = (k:Int):=by omega
 have hw:IntKind.i64.wrap (k:Int) = (k:Int):=IntWalk.i64_in _ (by omega);have c1:Mak 109 #[.int .u64 2,.int .i64 1] (.string ⟨#[2]⟩):=fun w => by
   have h:=Oct.put_mid 2 1 w (by decide) (by decide) (by decide) (by decide);exact h
 have hlit:∀ w2:World,Calls Tryz.prog 185 #[.slice (some ⟨w2.heap.size,0,none⟩) 2 2] (w2.alloc (.cells #[.string ⟨#[2]⟩,.string s] 9)) fun e w' => e = .returned (.string X) /\ Below w2.heap.size w2 w':=fun w2 =>
   Oct.join_lit w2 [⟨#[2]⟩,s] 2 rfl _ rfl _ (by rw [hX]; unfold bitsS; apply ba_ext; rw [list_bs,list_bs]; simp [Oct.cat]) (by rw [hX,bitsS_size]; omega) (by decide)
 have HL:=lH hlit;clear hlit hX hk
 go_enter Tryz.func179,Tryz.ntmps179
 go_wp2_with fail
 go_quiet (fail)
 go_wp2_with fail;refine c1.calls0 ?_;intro w1 h1;have H1:=lH (Since.step (sinceN H0.out nq) h1);clear h1;go_wp2_with fail;refine (HL.out w1).mono ?_;rintro e w2 ⟨rfl,hb⟩;have H2:=lH (Since.step H1.out hb);clear hb;go_wp2_with fail;go_ret2;exact ⟨rfl,H2.out⟩
theorem bits_no_3 (s:ByteArray) (k:Nat) (hk:s.size = k + 1) (hlt:k < s.size) (hm:s.size <= 1000000) (hq:(bits .and .u8 (s[k].toNat:Int) 7 != 0) = true):Mak 179 #[.string s,.int .i64 3] (.tuple #[.string ⟨#[]⟩,.bool false]):=by
 intro w;have H0:=lH (Since.refl w);have b1:=some_bytes s (by omega);have b2:=some_bytes_f s (by omega);have hji:(s.size:Int) - 1 = (k:Int):=by omega
 have hw:IntKind.i64.wrap (k:Int) = (k:Int):=IntWalk.i64_in _ (by omega);clear hk
 go_enter Tryz.func179,Tryz.ntmps179
 go_wp2_with fail
 go_quiet (fail)
 go_wp2_with fail;go_ret2;exact ⟨rfl,sinceN H0.out nq⟩
theorem bits_yes_3 (s:ByteArray) (k:Nat) (hk:s.size = k + 1) (hlt:k < s.size) (hm:s.size <= 1000000) (hq:(bits .and .u8 (s[k].toNat:Int) 7 != 0) = false) (X:ByteArray) (hX:X = bitsS s 3):Mak 179 #[.string s,.int .i64 3] (.tuple #[.string X,.bool true]):=by
 intro w;have H0:=lH (Since.refl w);have b1:=some_bytes s (by omega);have b2:=some_bytes_f s (by omega);have hji:(s.size:Int) - 1 = (k:Int):=by omega
 have hw:IntKind.i64.wrap (k:Int) = (k:Int):=IntWalk.i64_in _ (by omega);have c1:Mak 109 #[.int .u64 3,.int .i64 1] (.string ⟨#[3]⟩):=fun w => by
   have h:=Oct.put_mid 3 1 w (by decide) (by decide) (by decide) (by decide);exact h
 have hlit:∀ w2:World,Calls Tryz.prog 185 #[.slice (some ⟨w2.heap.size,0,none⟩) 2 2] (w2.alloc (.cells #[.string ⟨#[3]⟩,.string s] 9)) fun e w' => e = .returned (.string X) /\ Below w2.heap.size w2 w':=fun w2 =>
   Oct.join_lit w2 [⟨#[3]⟩,s] 2 rfl _ rfl _ (by rw [hX]; unfold bitsS; apply ba_ext; rw [list_bs,list_bs]; simp [Oct.cat]) (by rw [hX,bitsS_size]; omega) (by decide)
 have HL:=lH hlit;clear hlit hX hk
 go_enter Tryz.func179,Tryz.ntmps179
 go_wp2_with fail
 go_quiet (fail)
 go_wp2_with fail;refine c1.calls0 ?_;intro w1 h1;have H1:=lH (Since.step (sinceN H0.out nq) h1);clear h1;go_wp2_with fail;refine (HL.out w1).mono ?_;rintro e w2 ⟨rfl,hb⟩;have H2:=lH (Since.step H1.out hb);clear hb;go_wp2_with fail;go_ret2;exact ⟨rfl,H2.out⟩
theorem bits_no_4 (s:ByteArray) (k:Nat) (hk:s.size = k + 1) (hlt:k < s.size) (hm:s.size <= 1000000) (hq:(bits .and .u8 (s[k].toNat:Int) 15 != 0) = true):Mak 179 #[.string s,.int .i64 4] (.tuple #[.string ⟨#[]⟩,.bool false]):=by
 intro w;have H0:=lH (Since.refl w);have b1:=some_bytes s (by omega);have b2:=some_bytes_f s (by omega);have hji:(s.size:Int) - 1 = (k:Int):=by omega
 have hw:IntKind.i64.wrap (k:Int) = (k:Int):=IntWalk.i64_in _ (by omega);clear hk
 go_enter Tryz.func179,Tryz.ntmps179
 go_wp2_with fail
 go_quiet (fail)
 go_wp2_with fail;go_ret2;exact ⟨rfl,sinceN H0.out nq⟩
theorem bits_yes_4 (s:ByteArray) (k:Nat) (hk:s.size = k + 1) (hlt:k < s.size) (hm:s.size <= 1000000) (hq:(bits .and .u8 (s[k].toNat:Int) 15 != 0) = false) (X:ByteArray) (hX:X = bitsS s 4):Mak 179 #[.string s,.int .i64 4] (.tuple #[.string X,.bool true]):=by
 intro w;have H0:=lH (Since.refl w);have b1:=some_bytes s (by omega);have b2:=some_bytes_f s (by omega);have hji:(s.size:Int) - 1 = (k:Int):=by omega
 have hw:IntKind.i64.wrap (k:Int) = (k:Int):=IntWalk.i64_in _ (by omega);have c1:Mak 109 #[.int .u64 4,.int .i64 1] (.string ⟨#[4]⟩):=fun w => by
   have h:=Oct.put_mid 4 1 w (by decide) (by decide) (by decide) (by decide);exact h
 have hlit:∀ w2:World,Calls Tryz.prog 185 #[.slice (some ⟨w2.heap.size,0,none⟩) 2 2] (w2.alloc (.cells #[.string ⟨#[4]⟩,.string s] 9)) fun e w' => e = .returned (.string X) /\ Below w2.heap.size w2 w':=fun w2 =>
   Oct.join_lit w2 [⟨#[4]⟩,s] 2 rfl _ rfl _ (by rw [hX]; unfold bitsS; apply ba_ext; rw [list_bs,list_bs]; simp [Oct.cat]) (by rw [hX,bitsS_size]; omega) (by decide)
 have HL:=lH hlit;clear hlit hX hk
 go_enter Tryz.func179,Tryz.ntmps179
 go_wp2_with fail
 go_quiet (fail)
 go_wp2_with fail;refine c1.calls0 ?_;intro w1 h1;have H1:=lH (Since.step (sinceN H0.out nq) h1);clear h1;go_wp2_with fail;refine (HL.out w1).mono ?_;rintro e w2 ⟨rfl,hb⟩;have H2:=lH (Since.step H1.out hb);clear hb;go_wp2_with fail;go_ret2;exact ⟨rfl,H2.out⟩
theorem bits_no_5 (s:ByteArray) (k:Nat) (hk:s.size = k + 1) (hlt:k < s.size) (hm:s.size <= 1000000) (hq:(bits .and .u8 (s[k].toNat:Int) 31 != 0) = true):Mak 179 #[.string s,.int .i64 5] (.tuple #[.string ⟨#[]⟩,.bool false]):=by
 intro w;have H0:=lH (Since.refl w);have b1:=some_bytes s (by omega);have b2:=some_bytes_f s (by omega);have hji:(s.size:Int) - 1 = (k:Int):=by omega
 have hw:IntKind.i64.wrap (k:Int) = (k:Int):=IntWalk.i64_in _ (by omega);clear hk
 go_enter Tryz.func179,Tryz.ntmps179
 go_wp2_with fail
 go_quiet (fail)
 go_wp2_with fail;go_ret2;exact ⟨rfl,sinceN H0.out nq⟩
theorem bits_yes_5 (s:ByteArray) (k:Nat) (hk:s.size = k + 1) (hlt:k < s.size) (hm:s.size <= 1000000) (hq:(bits .and .u8 (s[k].toNat:Int) 31 != 0) = false) (X:ByteArray) (hX:X = bitsS s 5):Mak 179 #[.string s,.int .i64 5] (.tuple #[.string X,.bool true]):=by
 intro w;have H0:=lH (Since.refl w);have b1:=some_bytes s (by omega);have b2:=some_bytes_f s (by omega);have hji:(s.size:Int) - 1 = (k:Int):=by omega
 have hw:IntKind.i64.wrap (k:Int) = (k:Int):=IntWalk.i64_in _ (by omega);have c1:Mak 109 #[.int .u64 5,.int .i64 1] (.string ⟨#[5]⟩):=fun w => by
   have h:=Oct.put_mid 5 1 w (by decide) (by decide) (by decide) (by decide);exact h
 have hlit:∀ w2:World,Calls Tryz.prog 185 #[.slice (some ⟨w2.heap.size,0,none⟩) 2 2] (w2.alloc (.cells #[.string ⟨#[5]⟩,.string s] 9)) fun e w' => e = .returned (.string X) /\ Below w2.heap.size w2 w':=fun w2 =>
   Oct.join_lit w2 [⟨#[5]⟩,s] 2 rfl _ rfl _ (by rw [hX]; unfold bitsS; apply ba_ext; rw [list_bs,list_bs]; simp [Oct.cat]) (by rw [hX,bitsS_size]; omega) (by decide)
 have HL:=lH hlit;clear hlit hX hk
 go_enter Tryz.func179,Tryz.ntmps179
 go_wp2_with fail
 go_quiet (fail)
 go_wp2_with fail;refine c1.calls0 ?_;intro w1 h1;have H1:=lH (Since.step (sinceN H0.out nq) h1);clear h1;go_wp2_with fail;refine (HL.out w1).mono ?_;rintro e w2 ⟨rfl,hb⟩;have H2:=lH (Since.step H1.out hb);clear hb;go_wp2_with fail;go_ret2;exact ⟨rfl,H2.out⟩
theorem bits_no_6 (s:ByteArray) (k:Nat) (hk:s.size = k + 1) (hlt:k < s.size) (hm:s.size <= 1000000) (hq:(bits .and .u8 (s[k].toNat:Int) 63 != 0) = true):Mak 179 #[.string s,.int .i64 6] (.tuple #[.string ⟨#[]⟩,.bool false]):=by
 intro w;have H0:=lH (Since.refl w);have b1:=some_bytes s (by omega);have b2:=some_bytes_f s (by omega);have hji:(s.size:Int) - 1 = (k:Int):=by omega
 have hw:IntKind.i64.wrap (k:Int) = (k:Int):=IntWalk.i64_in _ (by omega);clear hk
 go_enter Tryz.func179,Tryz.ntmps179
 go_wp2_with fail
 go_quiet (fail)
 go_wp2_with fail;go_ret2;exact ⟨rfl,sinceN H0.out nq⟩
theorem bits_yes_6 (s:ByteArray) (k:Nat) (hk:s.size = k + 1) (hlt:k < s.size) (hm:s.size <= 1000000) (hq:(bits .and .u8 (s[k].toNat:Int) 63 != 0) = false) (X:ByteArray) (hX:X = bitsS s 6):Mak 179 #[.string s,.int .i64 6] (.tuple #[.string X,.bool true]):=by
 intro w;have H0:=lH (Since.refl w);have b1:=some_bytes s (by omega);have b2:=some_bytes_f s (by omega);have hji:(s.size:Int) - 1 = (k:Int):=by omega
 have hw:IntKind.i64.wrap (k:Int) = (k:Int):=IntWalk.i64_in _ (by omega);have c1:Mak 109 #[.int .u64 6,.int .i64 1] (.string ⟨#[6]⟩):=fun w => by
   have h:=Oct.put_mid 6 1 w (by decide) (by decide) (by decide) (by decide);exact h
 have hlit:∀ w2:World,Calls Tryz.prog 185 #[.slice (some ⟨w2.heap.size,0,none⟩) 2 2] (w2.alloc (.cells #[.string ⟨#[6]⟩,.string s] 9)) fun e w' => e = .returned (.string X) /\ Below w2.heap.size w2 w':=fun w2 =>
   Oct.join_lit w2 [⟨#[6]⟩,s] 2 rfl _ rfl _ (by rw [hX]; unfold bitsS; apply ba_ext; rw [list_bs,list_bs]; simp [Oct.cat]) (by rw [hX,bitsS_size]; omega) (by decide)
 have HL:=lH hlit;clear hlit hX hk
 go_enter Tryz.func179,Tryz.ntmps179
 go_wp2_with fail
 go_quiet (fail)
 go_wp2_with fail;refine c1.calls0 ?_;intro w1 h1;have H1:=lH (Since.step (sinceN H0.out nq) h1);clear h1;go_wp2_with fail;refine (HL.out w1).mono ?_;rintro e w2 ⟨rfl,hb⟩;have H2:=lH (Since.step H1.out hb);clear hb;go_wp2_with fail;go_ret2;exact ⟨rfl,H2.out⟩
theorem bits_no_7 (s:ByteArray) (k:Nat) (hk:s.size = k + 1) (hlt:k < s.size) (hm:s.size <= 1000000) (hq:(bits .and .u8 (s[k].toNat:Int) 127 != 0) = true):Mak 179 #[.string s,.int .i64 7] (.tuple #[.string ⟨#[]⟩,.bool false]):=by
 intro w;have H0:=lH (Since.refl w);have b1:=some_bytes s (by omega);have b2:=some_bytes_f s (by omega);have hji:(s.size:Int) - 1 = (k:Int):=by omega
 have hw:IntKind.i64.wrap (k:Int) = (k:Int):=IntWalk.i64_in _ (by omega);clear hk
 go_enter Tryz.func179,Tryz.ntmps179
 go_wp2_with fail
 go_quiet (fail)
 go_wp2_with fail;go_ret2;exact ⟨rfl,sinceN H0.out nq⟩
theorem bits_yes_7 (s:ByteArray) (k:Nat) (hk:s.size = k + 1) (hlt:k < s.size) (hm:s.size <= 1000000) (hq:(bits .and .u8 (s[k].toNat:Int) 127 != 0) = false) (X:ByteArray) (hX:X = bitsS s 7):Mak 179 #[.string s,.int .i64 7] (.tuple #[.string X,.bool true]):=by
 intro w;have H0:=lH (Since.refl w);have b1:=some_bytes s (by omega);have b2:=some_bytes_f s (by omega);have hji:(s.size:Int) - 1 = (k:Int):=by omega
 have hw:IntKind.i64.wrap (k:Int) = (k:Int):=IntWalk.i64_in _ (by omega);have c1:Mak 109 #[.int .u64 7,.int .i64 1] (.string ⟨#[7]⟩):=fun w => by
   have h:=Oct.put_mid 7 1 w (by decide) (by decide) (by decide) (by decide);exact h
 have hlit:∀ w2:World,Calls Tryz.prog 185 #[.slice (some ⟨w2.heap.size,0,none⟩) 2 2] (w2.alloc (.cells #[.string ⟨#[7]⟩,.string s] 9)) fun e w' => e = .returned (.string X) /\ Below w2.heap.size w2 w':=fun w2 =>
   Oct.join_lit w2 [⟨#[7]⟩,s] 2 rfl _ rfl _ (by rw [hX]; unfold bitsS; apply ba_ext; rw [list_bs,list_bs]; simp [Oct.cat]) (by rw [hX,bitsS_size]; omega) (by decide)
 have HL:=lH hlit;clear hlit hX hk
 go_enter Tryz.func179,Tryz.ntmps179
 go_wp2_with fail
 go_quiet (fail)
 go_wp2_with fail;refine c1.calls0 ?_;intro w1 h1;have H1:=lH (Since.step (sinceN H0.out nq) h1);clear h1;go_wp2_with fail;refine (HL.out w1).mono ?_;rintro e w2 ⟨rfl,hb⟩;have H2:=lH (Since.step H1.out hb);clear hb;go_wp2_with fail;go_ret2;exact ⟨rfl,H2.out⟩
theorem bits_mak (s:ByteArray) (u:Int) (hm:s.size <= 1000000):Mak 179 #[.string s,.int .i64 u] (.tuple #[.string (if BitsOk s u then bitsS s u else ⟨#[]⟩),.bool (decide (BitsOk s u))]):=by
 by_cases hu:u < 0 ∨ 7 < u
 · have h:¬ BitsOk s u:=fun h => by obtain ⟨h1,h2,_⟩:=h; omega
   rw [if_neg h,decide_eq_false h];exact (bits_bad s u hu).mak
 · obtain ⟨m,rfl⟩:=Int.eq_ofNat_of_zero_le (show 0 <= u by omega);have hm8:m < 8:=by omega
   by_cases hs:s.size = 0
   · obtain rfl:s = ⟨#[]⟩:=ba_ext (List.eq_nil_of_length_eq_zero (by have h8:s.size = s.data.toList.length:=rfl; omega))
     by_cases h0:m = 0
     · subst h0;have h:BitsOk ⟨#[]⟩ ((0:Nat):Int):=⟨by decide,by decide,fun _ => rfl,fun h => absurd h (by decide)⟩
       rw [if_pos h,decide_eq_true h];exact bits_none _ rfl
     · have h:¬ BitsOk ⟨#[]⟩ (m:Int):=fun h => by have:=h.2.2.1 rfl; omega
       rw [if_neg h,decide_eq_false h];exact (bits_empty (m:Int) (by omega) (by omega) (by omega)).mak
   · obtain ⟨k,hk⟩:∃ k,s.size = k + 1:=⟨s.size - 1,by omega⟩
     have hlt:k < s.size:=by omega
     have hl:=lastN_at s k hk hlt;have hx:=and_mask (lastN s) m (by rw [hl]; exact s[k].toNat_lt) hm8;rw [hl] at hx
     by_cases hz:lastN s % 2 ^ m = 0
     · have h:BitsOk s (m:Int):=⟨by omega,by omega,fun h => by omega,fun _ => by rw [Int.toNat_natCast]; exact hz⟩
       rw [if_pos h,decide_eq_true h];rw [hl] at hz;rw [decide_eq_false (by simpa using hz)] at hx
       match m,hm8,hx with
       | 0,_,hx => exact bits_yes_0 s k hk hlt hm hx _ rfl
       | 1,_,hx => exact bits_yes_1 s k hk hlt hm hx _ rfl
       | 2,_,hx => exact bits_yes_2 s k hk hlt hm hx _ rfl
       | 3,_,hx => exact bits_yes_3 s k hk hlt hm hx _ rfl
       | 4,_,hx => exact bits_yes_4 s k hk hlt hm hx _ rfl
       | 5,_,hx => exact bits_yes_5 s k hk hlt hm hx _ rfl
       | 6,_,hx => exact bits_yes_6 s k hk hlt hm hx _ rfl
       | 7,_,hx => exact bits_yes_7 s k hk hlt hm hx _ rfl
     · have h:¬ BitsOk s (m:Int):=fun h => hz (by have:=h.2.2.2 (by omega); rwa [Int.toNat_natCast] at this)
       rw [if_neg h,decide_eq_false h];rw [hl] at hz;rw [decide_eq_true hz] at hx
       match m,hm8,hx with
       | 0,_,hx => exact bits_no_0 s k hk hlt hm hx
       | 1,_,hx => exact bits_no_1 s k hk hlt hm hx
       | 2,_,hx => exact bits_no_2 s k hk hlt hm hx
       | 3,_,hx => exact bits_no_3 s k hk hlt hm hx
       | 4,_,hx => exact bits_no_4 s k hk hlt hm hx
       | 5,_,hx => exact bits_no_5 s k hk hlt hm hx
       | 6,_,hx => exact bits_no_6 s k hk hlt hm hx
       | 7,_,hx => exact bits_no_7 s k hk hlt hm hx
def restS (c:ByteArray):ByteArray:=c.extract 1 c.size
def headN (c:ByteArray):Nat:=(c.data.toList.headD 0).toNat
def UnbOk (c:ByteArray):Prop:=0 < c.size /\ BitsOk (restS c) (headN c:Int)
instance (c:ByteArray):Decidable (UnbOk c):=by unfold UnbOk; infer_instance
theorem headN_at (c:ByteArray) (h:0 < c.size):headN c = c[0].toNat:=by
 unfold headN;have h2:0 < c.data.toList.length:=h;rw [List.headD_eq_head?_getD,List.head?_eq_getElem?,List.getElem?_eq_getElem h2];rfl
theorem restS_size (c:ByteArray):(restS c).size = c.size - 1:=by
 unfold restS; rw [ByteArray.size_extract]; omega
def unbT (c:ByteArray):Value:=.tuple #[.string (if UnbOk c then restS c else ⟨#[]⟩),.int .i64 (if UnbOk c then (headN c:Int) else 0),.bool (decide (UnbOk c))]
theorem unbits_empty:Mak 170 #[.string ⟨#[]⟩] (.tuple #[.string ⟨#[]⟩,.int .i64 0,.bool false]):=by
 intro w;have H0:=lH (Since.refl w)
 go_enter Tryz.func170,Tryz.ntmps170
 go_wp2_with fail
 go_ret3
 exact ⟨rfl,H0.out⟩
set_option maxHeartbeats 1000000 in
theorem unbits_t (c R X:ByteArray) (n:Nat) (h0:0 < c.size) (hm:c.size <= 1000000) (hR:c.extract 1 c.size = R) (hn:n = c[0].toNat) (c1:Mak 179 #[.string R,.int .i64 (n:Int)] (.tuple #[.string X,.bool true])) :
   Mak 170 #[.string c] (.tuple #[.string R,.int .i64 (n:Int),.bool true]):=by
 intro w;have H0:=lH (Since.refl w);have b1:=some_bytes c h0;have b2:=some_bytes_f c h0;have i1:(1:Int) <= (c.size:Int):=by omega
 have hx9:=c[0].toNat_lt;have hx:Go.RowKit.wrap64 ((c[0].toNat:Nat):Int) = (n:Int):=by rw [hn]; unfold Go.RowKit.wrap64; omega
 clear hn hx9
 go_enter Tryz.func170,Tryz.ntmps170
 go_wp2_with fail
 go_quiet (fail)
 rw [hx];clear hx;go_wp2_with fail;refine c1.calls0 ?_;intro w1 h1;have H1:=lH (Since.step (sinceN H0.out nq) h1);clear h1;go_wp2_with fail
 go_ret3
 exact ⟨rfl,H1.out⟩
set_option maxHeartbeats 1000000 in
theorem unbits_f (c R X:ByteArray) (n:Nat) (h0:0 < c.size) (hm:c.size <= 1000000) (hR:c.extract 1 c.size = R) (hn:n = c[0].toNat) (c1:Mak 179 #[.string R,.int .i64 (n:Int)] (.tuple #[.string X,.bool false])) :
   Mak 170 #[.string c] (.tuple #[.string ⟨#[]⟩,.int .i64 0,.bool false]):=by
 intro w;have H0:=lH (Since.refl w);have b1:=some_bytes c h0;have b2:=some_bytes_f c h0;have i1:(1:Int) <= (c.size:Int):=by omega
 have hx9:=c[0].toNat_lt;have hx:Go.RowKit.wrap64 ((c[0].toNat:Nat):Int) = (n:Int):=by rw [hn]; unfold Go.RowKit.wrap64; omega
 clear hn hx9
 go_enter Tryz.func170,Tryz.ntmps170
 go_wp2_with fail
 go_quiet (fail)
 rw [hx];clear hx;go_wp2_with fail;refine c1.calls0 ?_;intro w1 h1;have H1:=lH (Since.step (sinceN H0.out nq) h1);clear h1;go_wp2_with fail
 go_ret3
 exact ⟨rfl,H1.out⟩
theorem unbits_mak (c:ByteArray) (hm:c.size <= 1000000):Mak 170 #[.string c] (unbT c):=by
 unfold unbT
 by_cases h0:0 < c.size
 · have h:=bits_mak (restS c) (headN c:Int) (by rw [restS_size]; omega)
   by_cases hb:BitsOk (restS c) (headN c:Int)
   · have hu:UnbOk c:=⟨h0,hb⟩
     rw [if_pos hu,if_pos hu,decide_eq_true hu];rw [decide_eq_true hb] at h;exact unbits_t c (restS c) _ (headN c) h0 hm rfl (headN_at c h0) h
   · have hu:¬ UnbOk c:=fun h => hb h.2
     rw [if_neg hu,if_neg hu,decide_eq_false hu];rw [decide_eq_false hb] at h;exact unbits_f c (restS c) _ (headN c) h0 hm rfl (headN_at c h0) h
 · obtain rfl:c = ⟨#[]⟩:=ba_ext (List.eq_nil_of_length_eq_zero (by have h8:c.size = c.data.toList.length:=rfl; omega));have hu:¬ UnbOk ⟨#[]⟩:=fun h => absurd h.1 (by decide)
   rw [if_neg hu,if_neg hu,decide_eq_false hu];exact unbits_empty
end Strs
namespace RefStrs
open Oct Strs
theorem putOne (c:Nat) (h:c < 256):strOfNums (Oct.putL (c:Int) 1) = bs [UInt8.ofNat c]:=by
 rw [RefOct.put_same _ 1 (by decide)]
 show bs [UInt8.ofNat ((c:Int) / 2 ^ (8 * 0) % 256).toNat] = _
 have e:((c:Int) / 2 ^ (8 * 0) % 256).toNat = c:=by simp; omega
 rw [e]
theorem bits_bad (s:ByteArray) (u:Int) (h:u < 0 ∨ 7 < u):Ret 183 #[.string s,.int .i64 u] (.tuple #[.string ⟨#[]⟩,.bool false]):=by
 intro w
 by_cases h1:u < 0
 · have t1:decide (u < 0) = true:=decide_eq_true h1;clear h
   go_enter Tryz.func183,Tryz.ntmps183
   go_wp2_with fail;go_ret2;exact ⟨rfl,rfl⟩
 · have t1:decide (u < 0) = false:=decide_eq_false h1;have t2:decide ((7:Int) < u) = true:=decide_eq_true (by omega);clear h
   go_enter Tryz.func183,Tryz.ntmps183
   go_wp2_with fail;go_ret2;exact ⟨rfl,rfl⟩
theorem bits_empty (u:Int) (h0:0 <= u) (h7:u <= 7) (h:u ≠ 0):Ret 183 #[.string ⟨#[]⟩,.int .i64 u] (.tuple #[.string ⟨#[]⟩,.bool false]):=by
 intro w;have t1:decide (u < 0) = false:=decide_eq_false (by omega);have t2:decide ((7:Int) < u) = false:=decide_eq_false (by omega);have t3:(u != 0) = true:=by rw [bne_iff_ne]; exact h
 have t4:(u == 0) = false:=by rw [beq_eq_false_iff_ne]; exact h
 clear h
 go_enter Tryz.func183,Tryz.ntmps183
 go_wp2_with fail;go_ret2;exact ⟨rfl,rfl⟩
theorem pow_le (m:Nat) (h:m <= 7):1 <= 2 ^ m /\ 2 ^ m <= 128:=by
 match m,h with
 | 0,_ | 1,_ | 2,_ | 3,_ | 4,_ | 5,_ | 6,_ | 7,_ => decide
theorem put_1 (m:Nat) (hm:m <= 7):Mak 161 #[.int .u64 (m:Int),.int .i64 1] (.string ⟨#[UInt8.ofNat m]⟩):=fun w => by
 have h:=RefOct.put_mid (m:Int) 1 w (by omega) (by omega) (by decide) (by decide);have e:strOfNums (Oct.putL (m:Int) 1) = ⟨#[UInt8.ofNat m]⟩:=putOne m (by omega);rw [<- e,RefOct.put_same _ 1 (by decide)]; exact h
set_option maxHeartbeats 1000000 in
theorem bits_core (s:ByteArray) (m k:Nat) (hm8:m <= 7) (hs:s.size = k + 1) (hlt:k < s.size) (hsm:s.size <= 1000000) (P:Nat) (hP:P = 2 ^ m) (q:Bool) (hq:(((s[k].toNat:Nat):Int) % (P:Int) == 0) = q) (hqb:(((s[k].toNat:Nat):Int) % (P:Int) != 0) = !q)
   (X:ByteArray) (f1:(⟨#[UInt8.ofNat m]⟩:ByteArray) ++ s = X):Mak 183 #[.string s,.int .i64 (m:Int)] (.tuple #[.string (if q then X else ⟨#[]⟩),.bool q]):=by
 intro w;have H0:=lH (Since.refl w);have t1:decide ((m:Int) < 0) = false:=decide_eq_false (by omega);have t2:decide ((7:Int) < (m:Int)) = false:=decide_eq_false (by omega);have b1:=some_bytes s (by omega);have b2:=some_bytes_f s (by omega);have c1:=put_1 m hm8;have HP:=lH hP;have HM:=lH hm8;have HK:=lH hs;clear hP hs
 go_enter Tryz.func183,Tryz.ntmps183
 go_wp2_with fail
 go_loop [6,7] (fun c i => ∃ j:Nat,j <= m /\ i = .int .i64 (j:Int) /\ c = .int .i64 ((2 ^ j:Nat):Int)) (fun _ i => m - (intOf i).toNat)
 case atStart => exact ⟨0,by omega,rfl,rfl⟩
 case round =>
   obtain ⟨j,hj,rfl,rfl⟩:=hrel;obtain ⟨p,hp⟩:∃ p,p = 2 ^ j:=⟨_,rfl⟩
   have hp9:=pow_le j (by omega);rw [<- hp] at hp9 ⊢
   by_cases hlt2:j < m
   · have hp2:2 ^ (j + 1) = 2 * p:=by rw [Nat.pow_succ,<- hp]; omega
     have HP2:=lH hp2;clear hp hp2
     go_wp2
     go_round
     case rel => exact ⟨j + 1,by omega,by go_num,by rw [HP2.out]; go_num⟩
     case measure => simp [intOf]; omega
   · obtain rfl:j = m:=by omega
     obtain rfl:p = P:=by rw [hp,HP.out]
     have hji:(s.size:Int) - 1 = (k:Int):=by have:=HK.out; omega
     have hw:IntKind.i64.wrap (k:Int) = (k:Int):=IntWalk.i64_in _ (by omega);have hc9:=s[k].toNat_lt;have hc8:Go.RowKit.wrap64 ((s[k].toNat:Nat):Int) = ((s[k].toNat:Nat):Int):=by unfold Go.RowKit.wrap64; omega
     have hp0:((p:Int) == 0) = false:=by rw [beq_eq_false_iff_ne]; omega
     have hp1:¬ (p:Int) = 0:=by omega
     have z1:¬ 9223372036854775807 < (⟨#[UInt8.ofNat j]⟩:ByteArray).size + s.size:=by
       have:(⟨#[UInt8.ofNat j]⟩:ByteArray).size = 1:=rfl;omega
     cases q
     · clear hp;go_wp2_with fail;go_ret2;exact ⟨rfl,H0.out⟩
     · clear hp;go_wp2_with fail;refine c1.calls H0.out ?_;intro w1 h1;have H1:=lH h1;clear h1;go_wp2_with fail;go_ret2;exact ⟨rfl,H1.out⟩
theorem bits_none (X:ByteArray) (hX:X = bitsS ⟨#[]⟩ 0):Mak 183 #[.string ⟨#[]⟩,.int .i64 0] (.tuple #[.string X,.bool true]):=by
 intro w;have H0:=lH (Since.refl w);have c1:=put_1 0 (by decide);have f1:(⟨#[0]⟩:ByteArray) ++ ⟨#[]⟩ = X:=by rw [hX]; rfl
 have c1':Mak 161 #[.int .u64 0,.int .i64 1] (.string ⟨#[UInt8.ofNat 0]⟩):=c1;clear hX c1
 go_enter Tryz.func183,Tryz.ntmps183
 go_wp2_with fail
 go_loop [6,7] (fun c i => i = .int .i64 0 /\ c = .int .i64 1) (fun _ _ => 0)
 case atStart => exact ⟨rfl,rfl⟩
 case round =>
   obtain ⟨rfl,rfl⟩:=hrel;go_wp2_with fail;refine c1'.calls H0.out ?_;intro w1 h1;have H1:=lH h1;clear h1;go_wp2_with fail;go_ret2;exact ⟨rfl,H1.out⟩
theorem bits_mak (s:ByteArray) (u:Int) (hm:s.size <= 1000000):Mak 183 #[.string s,.int .i64 u] (.tuple #[.string (if BitsOk s u then bitsS s u else ⟨#[]⟩),.bool (decide (BitsOk s u))]):=by
 by_cases hu:u < 0 ∨ 7 < u
 · have h:¬ BitsOk s u:=fun h => by obtain ⟨h1,h2,_⟩:=h; omega
   rw [if_neg h,decide_eq_false h];exact (bits_bad s u hu).mak
 · obtain ⟨m,rfl⟩:=Int.eq_ofNat_of_zero_le (show 0 <= u by omega);have hm8:m <= 7:=by omega
   by_cases hs:s.size = 0
   · obtain rfl:s = ⟨#[]⟩:=ba_ext (List.eq_nil_of_length_eq_zero (by have h8:s.size = s.data.toList.length:=rfl; omega))
     by_cases h0:m = 0
     · subst h0;have h:BitsOk ⟨#[]⟩ ((0:Nat):Int):=⟨by decide,by decide,fun _ => rfl,fun h => absurd h (by decide)⟩
       rw [if_pos h,decide_eq_true h];exact bits_none _ rfl
     · have h:¬ BitsOk ⟨#[]⟩ (m:Int):=fun h => by have:=h.2.2.1 rfl; omega
       rw [if_neg h,decide_eq_false h];exact (bits_empty (m:Int) (by omega) (by omega) (by omega)).mak
   · obtain ⟨k,hk⟩:∃ k,s.size = k + 1:=⟨s.size - 1,by omega⟩
     have hlt:k < s.size:=by omega
     have hl:=lastN_at s k hk hlt;have hp9:=pow_le m hm8;have f1:(⟨#[UInt8.ofNat m]⟩:ByteArray) ++ s = bitsS s (m:Int):=by
       apply ba_ext
       unfold bitsS;rw [app_list,list_bs,Int.toNat_natCast]; rfl
     by_cases hz:lastN s % 2 ^ m = 0
     · have h:BitsOk s (m:Int):=⟨by omega,by omega,fun h => by omega,fun _ => by rw [Int.toNat_natCast]; exact hz⟩
       rw [if_pos h,decide_eq_true h];rw [hl] at hz;have e:(((s[k].toNat:Nat):Int) % ((2 ^ m:Nat):Int)) = 0:=by rw [<- Int.natCast_emod,hz]; rfl
       exact bits_core s m k hm8 hk hlt hm _ rfl true (by rw [e]; rfl) (by rw [e]; rfl) _ f1
     · have h:¬ BitsOk s (m:Int):=fun h => hz (by have:=h.2.2.2 (by omega); rwa [Int.toNat_natCast] at this)
       rw [if_neg h,decide_eq_false h];rw [hl] at hz;have e:(((s[k].toNat:Nat):Int) % ((2 ^ m:Nat):Int)) ≠ 0:=by rw [<- Int.natCast_emod]; exact fun h9 => hz (Int.ofNat.inj h9)
       exact bits_core s m k hm8 hk hlt hm _ rfl false (by rw [beq_eq_false_iff_ne]; exact e) (by rw [bne_iff_ne.2 e]; rfl) _ f1
theorem unbits_empty:Mak 175 #[.string ⟨#[]⟩] (.tuple #[.string ⟨#[]⟩,.int .i64 0,.bool false]):=by
 intro w;have H0:=lH (Since.refl w)
 go_enter Tryz.func175,Tryz.ntmps175
 go_wp2_with fail
 go_ret3
 exact ⟨rfl,H0.out⟩
set_option maxHeartbeats 1000000 in
theorem unbits_t (c R X:ByteArray) (n:Nat) (h0:0 < c.size) (hm:c.size <= 1000000) (hR:c.extract 1 c.size = R) (hn:n = c[0].toNat) (c1:Mak 183 #[.string R,.int .i64 (n:Int)] (.tuple #[.string X,.bool true])) :
   Mak 175 #[.string c] (.tuple #[.string R,.int .i64 (n:Int),.bool true]):=by
 intro w;have HS:=lH (Since.refl w);have b1:=some_bytes c h0;have b2:=some_bytes_f c h0;have i1:(1:Int) <= (c.size:Int):=by omega
 have hx9:=c[0].toNat_lt;have hx:IntKind.i64.wrap ((c[0].toNat:Nat):Int) = (n:Int):=by rw [hn]; exact IntWalk.i64_in _ (by omega)
 have hx2:Go.RowKit.wrap64 ((c[0].toNat:Nat):Int) = (n:Int):=by rw [hn]; unfold Go.RowKit.wrap64; omega
 clear hn hx9
 go_enter Tryz.func175,Tryz.ntmps175
 go_wp2_with fail
 go_region_law (first
   | (go_simp; go_at_call 183; refine (c1 _).mono ?_; rintro e w1 ⟨rfl,h1⟩; have H1:=lH (Since.step (Since.drew HS.out) h1); clear h1))
 go_wp2_with fail
 (go_quiet (fail); (try rw [hx2]); go_wp2_with fail)
 go_ret3
 exact ⟨rfl,sinceN H1.out nq⟩
set_option maxHeartbeats 1000000 in
theorem unbits_f (c R X:ByteArray) (n:Nat) (h0:0 < c.size) (hm:c.size <= 1000000) (hR:c.extract 1 c.size = R) (hn:n = c[0].toNat) (c1:Mak 183 #[.string R,.int .i64 (n:Int)] (.tuple #[.string X,.bool false])) :
   Mak 175 #[.string c] (.tuple #[.string ⟨#[]⟩,.int .i64 0,.bool false]):=by
 intro w;have HS:=lH (Since.refl w);have b1:=some_bytes c h0;have b2:=some_bytes_f c h0;have i1:(1:Int) <= (c.size:Int):=by omega
 have hx9:=c[0].toNat_lt;have hx:IntKind.i64.wrap ((c[0].toNat:Nat):Int) = (n:Int):=by rw [hn]; exact IntWalk.i64_in _ (by omega)
 have hx2:Go.RowKit.wrap64 ((c[0].toNat:Nat):Int) = (n:Int):=by rw [hn]; unfold Go.RowKit.wrap64; omega
 clear hn hx9
 go_enter Tryz.func175,Tryz.ntmps175
 go_wp2_with fail
 go_region_law (first
   | (go_simp; go_at_call 183; refine (c1 _).mono ?_; rintro e w1 ⟨rfl,h1⟩; have H1:=lH (Since.step (Since.drew HS.out) h1); clear h1))
 go_wp2_with fail
 skip
 go_ret3
 exact ⟨rfl,H1.out⟩
theorem unbits_mak (c:ByteArray) (hm:c.size <= 1000000):Mak 175 #[.string c] (unbT c):=by
 unfold unbT
 by_cases h0:0 < c.size
 · have h:=bits_mak (restS c) (headN c:Int) (by rw [restS_size]; omega)
   by_cases hb:BitsOk (restS c) (headN c:Int)
   · have hu:UnbOk c:=⟨h0,hb⟩
     rw [if_pos hu,if_pos hu,decide_eq_true hu];rw [decide_eq_true hb] at h;exact unbits_t c (restS c) _ (headN c) h0 hm rfl (headN_at c h0) h
   · have hu:¬ UnbOk c:=fun h => hb h.2
     rw [if_neg hu,if_neg hu,decide_eq_false hu];rw [decide_eq_false hb] at h;exact unbits_f c (restS c) _ (headN c) h0 hm rfl (headN_at c h0) h
 · obtain rfl:c = ⟨#[]⟩:=ba_ext (List.eq_nil_of_length_eq_zero (by have h8:c.size = c.data.toList.length:=rfl; omega));have hu:¬ UnbOk ⟨#[]⟩:=fun h => absurd h.1 (by decide)
   rw [if_neg hu,if_neg hu,decide_eq_false hu];exact unbits_empty
end RefStrs
end Go.Proofs.YtpanhhjkecebkaaGreat
