import Derived.Test.YtddlaafpianjbaaGreatDoorBo40
import Derived.Test.YtddlaafpianjbaaGreatDoorBo33
import Derived.Test.YtddlaafpianjbaaGreatDoorBo32
set_option maxRecDepth 100000
namespace Go.Proofs.YtddlaafpianjbaaGreatDoor
open Go.RowKit
namespace Load
open Kind (Tab2)
open Kind
theorem num_pair (a c:UInt8):((Oct.numN [a,c]:Nat):Int) = (256:Int) * (a.toNat:Int) + (c.toNat:Int):=by
 show (((0 * 256 + a.toNat) * 256 + c.toNat:Nat):Int) = _; omega
theorem num2 (b:Int) (h:0 <= b /\ b <= 65535):((Oct.numN (RefOct.low b 2):Nat):Int) = b:=by
 have e1:(UInt8.ofNat (b / 256).toNat).toNat = (b / 256).toNat:=by rw [UInt8.toNat_ofNat']; omega
 have e2:(UInt8.ofNat (b % 256).toNat).toNat = (b % 256).toNat:=by rw [UInt8.toNat_ofNat']; omega
 have hb:(256:Int) * ((UInt8.ofNat (b / 256).toNat).toNat:Int) + ((UInt8.ofNat (b % 256).toNat).toNat:Int) = b:=by rw [e1,e2]; omega
 rw [low2 _ _ b hb,num_pair,hb]
theorem fnd_self (no:Int) (h:(rowOf no).2.1 ≠ 0):fndL (wants (rowOf no).2.2.1 (rowOf no).2.1) rows 0 = (no,true):=by
 rcases row_cases no with h1 | h1 | h1 | h1 | h1 | h1 | h1 | h1 | h1 | h1 | h1 | h1
 · rw [rowOf_out no h1] at h; exact absurd rfl h
 all_goals subst h1; decide +kernel
theorem chk_size (r:Row) (s:List UInt8) (h:chkE r s = 0):r.2.1 ≠ 0 /\ (s.length:Int) = r.2.1:=by
 unfold chkE at h
 by_cases h1:r.2.1 = 0
 · rw [if_pos h1] at h; cases h
 · rw [if_neg h1] at h
   by_cases h2:(s.length:Int) ≠ r.2.1
   · rw [if_pos h2] at h; cases h
   · exact ⟨h1,by omega⟩
theorem take_fwd (no:Int) (key pads:ByteArray) (h0:chkE (rowOf no) key.data.toList = 0) (h1:(pads.size:Int) = padsI (rowOf no)) :
   KMk Tab2 36 #[.string (bs (rowOf no).2.2.1),.string (PLD key pads)] (.tuple #[.int .i64 no,.string key,.string pads,.int .i64 0]) /\ ((PLD key pads).size:Int) = tot (mostN (rowOf no).2.2.1):=by
 obtain ⟨hn0,hks⟩:=chk_size _ _ h0
 have hks':(key.size:Int) = (rowOf no).2.1:=hks
 have hsz:=pld_size key pads
 have hrs:=row_size no
 have hto:=tot_bounds (rowOf no).2.2.1
 have hp2:(pads.size:Int) = tot (mostN (rowOf no).2.2.1) - 2 - (rowOf no).2.1:=by rw [h1]; unfold padsI; rw [if_neg hn0]
 have hts:((PLD key pads).size:Int) = tot (mostN (rowOf no).2.2.1):=by omega
 refine ⟨?_,hts⟩
 have c1:=total_k (bs (rowOf no).2.2.1) _ rfl
 rw [list_bs] at c1
 obtain ⟨b,hb⟩:∃ b:Int,b = 8 * (key.size:Int):=⟨_,rfl⟩
 have hpl:(PLD key pads).data.toList = RefOct.low b 2 ++ (key.data.toList ++ pads.data.toList):=by unfold PLD; rw [list_bs,<- hb,List.append_assoc]
 have hll:(RefOct.low b 2).length = 2:=RefOct.low_len b 2
 have hx2:((PLD key pads).extract 0 2).data.toList = RefOct.low b 2:=by
   rw [ext_list,hpl,List.drop_zero,List.take_append_of_le_length (by rw [hll]; decide),List.take_of_length_le (by rw [hll]; decide)]
 have cg:Mak 75 #[.string ((PLD key pads).extract 0 2)] (.tuple #[.int .u64 b,.bool true]):=by
   have hz:((PLD key pads).extract 0 2).size = 2:=by show ((PLD key pads).extract 0 2).data.toList.length = 2; rw [hx2,hll]
   have h:Ret 75 #[.string ((PLD key pads).extract 0 2)] (.tuple #[.int .u64 (Oct.numN ((PLD key pads).extract 0 2).data.toList:Nat),.bool true]):=fun w => Oct.get_in _ w (by omega) (by omega)
   rw [hx2,num2 b (by omega)] at h
   exact h.mak
 have c3:=KMk.t2 (of_k (bs (rowOf no).2.2.1) (key.size:Int) no true (by rw [list_bs,hks']; exact fnd_self no hn0))
 have c4:=check_k no key (by omega) _ rfl
 rw [h0] at c4
 have hd2:(PLD key pads).data.toList.drop 2 = key.data.toList ++ pads.data.toList:=by
   rw [hpl,List.drop_append_of_le_length (by rw [hll]; decide),List.drop_of_length_le (by rw [hll]; decide),List.nil_append]
 exact take_ok _ _ _ key pads _ b no key.size (key.size + 2) (by omega) (by omega) (bne_eq_false_iff_eq.2 hts) rfl (by omega) (bne_eq_false_iff_eq.2 (by omega)) (by omega) (by omega) (decide_eq_false (by omega)) rfl (by omega)
   (by apply ba_ext; rw [ext_list,hd2,List.take_append_of_le_length (by show _ <= key.size; omega),List.take_of_length_le (by show key.size <= _; omega)])
   (by
     apply ba_ext
     rw [ext_list,List.take_of_length_le (by rw [List.length_drop]; exact Nat.le_refl _),Nat.add_comm,<- List.drop_drop,hd2]
     exact List.drop_left)
   c1 cg c3 c4
end Load
namespace Rec
open Att Kind
def RdR (f:Nat) (L:List A2) (args:Value -> Array Value) (v:Value):Prop:=∀ w x,Tab2 w -> AttsS w x L -> Calls Tryz.prog f (args x) w fun e w' => e = .returned v /\ Below w.heap.size w w'
theorem RdR.calls0 {f:Nat} {L:List A2} {args:Value -> Array Value} {v x:Value} (h:RdR f L args v) {w:World} (hT:Tab2 w) (hx:AttsS w x L) {R:Ending -> World -> Prop} (k:∀ w',Since w w' -> R (.returned v) w'):Calls Tryz.prog f (args x) w R :=
 (h w x hT hx).mono fun _ _ ⟨he,hb⟩ => by subst he; exact k _ hb
abbrev rv (K:Int) (k u m v e:ByteArray) (x:Value):Value:=.agg #[.int .i64 K,.string k,x,.string u,.string m,.string v,.string e]
def recE (K:Int) (k:ByteArray) (L:List A2):Int:=if chkE (rowOf K) k.data.toList ≠ 0 then chkE (rowOf K) k.data.toList else attE L
theorem chk_bad (K:Int) (k u m v e:ByteArray) (L:List A2) (E:Int) (hE:(E != 0) = true) (c1:KMk Tab2 55 #[.int .i64 K,.string k] (.int .i64 E)):RdR 51 L (fun x => #[rv K k u m v e x]) (.int .i64 E):=by
 intro w x hT hx
 obtain ⟨A,q,rfl,hq1,hq2⟩:=hx.slice
 have hp:=lH (hb_new w Tab2 hT #[.int .i64 K,.string k,.slice A L.length q,.string u,.string m,.string v,.string e] 26)
 have HX:=lH (hx.since hp.out.since)
 have HS:=lH hp.out.since
 obtain ⟨_,m0,m1,m2,m3,m4,m5,m6⟩:=hb7 hp
 clear hx hT
 go_enter Tryz.func51,Tryz.ntmps51
 go_wp2_with fail
 clear m0 m1 m2 m3 m4 m5 m6
 refine (c1.calls0 hp.out.tabs) ?_
 intro w1 h1
 replace HS:=lH (HS.out.step (Up.up h1))
 clear h1
 go_wp2_with fail
 go_ret
 exact ⟨rfl,HS.out⟩
theorem chk_ok (K:Int) (k u m v e:ByteArray) (L:List A2) (E:Int) (c1:KMk Tab2 55 #[.int .i64 K,.string k] (.int .i64 0)) (c2:RdA 92 L (fun x => #[x]) (.int .i64 E)):RdR 51 L (fun x => #[rv K k u m v e x]) (.int .i64 E):=by
 intro w x hT hx
 obtain ⟨A,q,rfl,hq1,hq2⟩:=hx.slice
 have hp:=lH (hb_new w Tab2 hT #[.int .i64 K,.string k,.slice A L.length q,.string u,.string m,.string v,.string e] 26)
 have HX:=lH (hx.since hp.out.since)
 have HS:=lH hp.out.since
 obtain ⟨_,m0,m1,m2,m3,m4,m5,m6⟩:=hb7 hp
 clear hx hT
 go_enter Tryz.func51,Tryz.ntmps51
 go_wp2_with fail
 clear m0 m1 m2 m3 m4 m5 m6
 refine (c1.calls0 hp.out.tabs) ?_
 intro w1 h1
 replace hp:=lH (hp.out.step (Up.up h1))
 replace HX:=lH (HX.out.since (Up.up h1))
 replace HS:=lH (HS.out.step (Up.up h1))
 clear h1
 obtain ⟨_,m0,m1,m2,m3,m4,m5,m6⟩:=hb7 hp
 go_wp2_with fail
 clear m0 m1 m2 m3 m4 m5 m6
 refine (c2.calls0 HX.out) ?_
 intro w2 h2
 replace HS:=lH (HS.out.step (Up.up h2))
 clear h2
 go_wp2_with fail
 go_ret
 exact ⟨rfl,HS.out⟩
theorem rchk_bad (K:Int) (k u m v e:ByteArray) (L:List A2) (E:Int) (hE:(E != 0) = true) (c1:Mak 44 #[.int .i64 K,.string k] (.int .i64 E)):RdR 15 L (fun x => #[rv K k u m v e x]) (.int .i64 E):=by
 intro w x hT hx
 obtain ⟨A,q,rfl,hq1,hq2⟩:=hx.slice
 have hp:=lH (hb_new w Tab2 hT #[.int .i64 K,.string k,.slice A L.length q,.string u,.string m,.string v,.string e] 26)
 have HX:=lH (hx.since hp.out.since)
 have HS:=lH hp.out.since
 obtain ⟨_,m0,m1,m2,m3,m4,m5,m6⟩:=hb7 hp
 clear hx hT
 go_enter Tryz.func15,Tryz.ntmps15
 go_wp2_with fail
 clear m0 m1 m2 m3 m4 m5 m6
 refine (c1.calls0) ?_
 intro w1 h1
 replace HS:=lH (HS.out.step (Up.up h1))
 clear h1
 go_wp2_with fail
 go_ret
 exact ⟨rfl,HS.out⟩
theorem rchk_ok (K:Int) (k u m v e:ByteArray) (L:List A2) (E:Int) (c1:Mak 44 #[.int .i64 K,.string k] (.int .i64 0)) (c2:RdA 45 L (fun x => #[x]) (.int .i64 E)):RdR 15 L (fun x => #[rv K k u m v e x]) (.int .i64 E):=by
 intro w x hT hx
 obtain ⟨A,q,rfl,hq1,hq2⟩:=hx.slice
 have hp:=lH (hb_new w Tab2 hT #[.int .i64 K,.string k,.slice A L.length q,.string u,.string m,.string v,.string e] 26)
 have HX:=lH (hx.since hp.out.since)
 have HS:=lH hp.out.since
 obtain ⟨_,m0,m1,m2,m3,m4,m5,m6⟩:=hb7 hp
 clear hx hT
 go_enter Tryz.func15,Tryz.ntmps15
 go_wp2_with fail
 clear m0 m1 m2 m3 m4 m5 m6
 refine (c1.calls0) ?_
 intro w1 h1
 replace hp:=lH (hp.out.step (Up.up h1))
 replace HX:=lH (HX.out.since (Up.up h1))
 replace HS:=lH (HS.out.step (Up.up h1))
 clear h1
 obtain ⟨_,m0,m1,m2,m3,m4,m5,m6⟩:=hb7 hp
 go_wp2_with fail
 clear m0 m1 m2 m3 m4 m5 m6
 refine (c2.calls0 HX.out) ?_
 intro w2 h2
 replace HS:=lH (HS.out.step (Up.up h2))
 clear h2
 go_wp2_with fail
 go_ret
 exact ⟨rfl,HS.out⟩
theorem check_rec (K:Int) (k u m v e:ByteArray) (L:List A2) (hk:k.size <= 100000) (E:Int) (hE:E = recE K k L):RdR 51 L (fun x => #[rv K k u m v e x]) (.int .i64 E):=by
 subst hE
 have c1:=check_k K k (by omega) _ rfl
 unfold recE
 by_cases h:chkE (rowOf K) k.data.toList = 0
 · rw [if_neg (by omega)]
   rw [h] at c1
   exact chk_ok K k u m v e L _ c1 (check_rd L _ rfl)
 · rw [if_pos h]
   exact chk_bad K k u m v e L _ (by rw [bne_iff_ne]; exact h) c1
theorem rcheck_rec (K:Int) (k u m v e:ByteArray) (L:List A2) (hk:k.size <= 100000) (E:Int) (hE:E = recE K k L):RdR 15 L (fun x => #[rv K k u m v e x]) (.int .i64 E):=by
 subst hE
 have c1:=rcheck_mak K k (by omega) _ rfl
 unfold recE
 by_cases h:chkE (rowOf K) k.data.toList = 0
 · rw [if_neg (by omega)]
   rw [h] at c1
   exact rchk_ok K k u m v e L _ c1 (rcheck_rd L _ rfl)
 · rw [if_pos h]
   exact rchk_bad K k u m v e L _ (by rw [bne_iff_ne]; exact h) c1
end Rec
end Go.Proofs.YtddlaafpianjbaaGreatDoor
