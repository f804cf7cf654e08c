import Derived.Test.YtddlaafpianjbaaGreatDoorBo32
import Derived.Test.YtddlaafpianjbaaGreatDoorBo34
import Derived.Test.YtddlaafpianjbaaGreatDoorBo18
import Derived.Deep.RegionHeld3
set_option maxRecDepth 100000
namespace Go.Proofs.YtddlaafpianjbaaGreatDoor
open Go.RowKit
namespace Header
def KH:World -> Prop:=fun w => Table.Tabs w /\ Kind.Tabs w
instance:Kp KH:=⟨fun h hb => ⟨Kp.keep h.1 hb,Kp.keep h.2 hb⟩⟩
theorem most_h (l:ByteArray) (X:Int) (hX:X = Kind.mostN l.data.toList):KMk KH 84 #[.string l] (.int .i64 X):=(Kind.most_k l X hX).weak (fun _ h => h.2)
theorem check_h (u m v e l:ByteArray) (x:Int) (hx:x = if Table.okB u.data.toList m.data.toList v.data.toList e.data.toList l.data.toList then 0 else 12):KMk KH 52 #[.agg #[.string u,.string m,.string v,.string e],.string l] (.int .i64 x):=(Table.check_k u m v e l x hx).weak (fun _ h => h.1)
structure Cats (D1 u l m v e D2 X:ByteArray) (X1 X2 X3 X4 X5 X6 X7:ByteArray):Prop where
 e1:(⟨#[68]⟩:ByteArray) ++ D1 = X1
 e2:X1 ++ u = X2
 e3:X2 ++ l = X3
 e4:X3 ++ m = X4
 e5:X4 ++ v = X5
 e6:X5 ++ e = X6
 e7:X6 ++ D2 = X7
 e8:X7 ++ (⟨#[48,48]⟩:ByteArray) = X
 s:D1.size <= 100 /\ u.size <= 100 /\ l.size <= 100 /\ m.size <= 100 /\ v.size <= 100 /\ e.size <= 100 /\ D2.size <= 100 /\ X1.size <= 1000 /\ X2.size <= 1000 /\ X3.size <= 1000 /\ X4.size <= 1000 /\ X5.size <= 1000 /\ X6.size <= 1000 /\ X7.size <= 1000
def catS (D1 u l m v e D2:ByteArray):ByteArray:=(⟨#[68]⟩:ByteArray) ++ D1 ++ u ++ l ++ m ++ v ++ e ++ D2 ++ (⟨#[48,48]⟩:ByteArray)
theorem cats_any (D1 u l m v e D2:ByteArray) (h:D1.size <= 100 /\ u.size <= 100 /\ l.size <= 100 /\ m.size <= 100 /\ v.size <= 100 /\ e.size <= 100 /\ D2.size <= 100):∃ X1 X2 X3 X4 X5 X6 X7,Cats D1 u l m v e D2 (catS D1 u l m v e D2) X1 X2 X3 X4 X5 X6 X7:=by
 obtain ⟨h1,h2,h3,h4,h5,h6,h7⟩:=h
 have h0:(⟨#[68]⟩:ByteArray).size = 1:=rfl
 refine ⟨_,_,_,_,_,_,_,rfl,rfl,rfl,rfl,rfl,rfl,rfl,rfl,h1,h2,h3,h4,h5,h6,h7, ?_⟩
 simp only [ByteArray.size_append]
 omega
set_option maxHeartbeats 8000000 in
theorem enc_yes (n k:Nat) (hn:n <= 9999) (hk:k <= 99) (l u m v e D1 D2 X X1 X2 X3 X4 X5 X6 X7:ByteArray) (M:Int) (hM:(M == 0) = false) (hX:Cats D1 u l m v e D2 X X1 X2 X3 X4 X5 X6 X7)
   (c1:KMk KH 84 #[.string l] (.int .i64 M)) (c2:KMk KH 52 #[.agg #[.string u,.string m,.string v,.string e],.string l] (.int .i64 0))
   (c3:Mak 142 #[.int .i64 (n:Int),.int .i64 4] (.string D1)) (c4:Mak 142 #[.int .i64 (k:Int),.int .i64 2] (.string D2)):KMk KH 99 #[.agg #[.int .i64 (n:Int),.string l,.int .i64 (k:Int),.string u,.string m,.string v,.string e]] (.tuple #[.string X,.int .i64 0]):=by
 intro w hT
 obtain ⟨f1,f2,f3,f4,f5,f6,f7,f8,s1,s2,s3,s4,s5,s6,s7,z1,z2,z3,z4,z5,z6,z7⟩:=hX
 have hp:=lH (hb_new w KH hT #[.int .i64 (n:Int),.string l,.int .i64 (k:Int),.string u,.string m,.string v,.string e] 112)
 obtain ⟨_,m0,m1,m2,m3,m4,m5,m6⟩:=hb7 hp
 have hg:=hp.out.lg
 have HS:=lH hp.out.since
 have HT:=lH hp.out.tabs
 go_enter Tryz.func99,Tryz.ntmps99
 go_wp2_with fail
 repeat ((first | with_reducible refine c1.calls0 HT.out ?_ | with_reducible refine c2.calls0 HT.out ?_); intro wz hz; replace hp:=lH (hp.out.step hz); replace m0:=(Below.cell hz (by exact hg)).trans m0; replace m1:=(Below.cell hz (by exact hg)).trans m1; replace m2:=(Below.cell hz (by exact hg)).trans m2; replace m3:=(Below.cell hz (by exact hg)).trans m3; replace m4:=(Below.cell hz (by exact hg)).trans m4; replace m5:=(Below.cell hz (by exact hg)).trans m5; replace m6:=(Below.cell hz (by exact hg)).trans m6; replace hg:=Nat.lt_of_lt_of_le hg (Below.size hz); replace HT:=lH (Kp.keep HT.out hz); replace HS:=lH (HS.out.step hz); clear hz; try go_wp2_with fail)
 have k1:¬ 9223372036854775807 < 1 + D1.size:=by omega
 have k2:¬ 9223372036854775807 < X1.size + u.size:=by omega
 have k3:¬ 9223372036854775807 < X2.size + l.size:=by omega
 have k4:¬ 9223372036854775807 < X3.size + m.size:=by omega
 have k5:¬ 9223372036854775807 < X4.size + v.size:=by omega
 have k6:¬ 9223372036854775807 < X5.size + e.size:=by omega
 have k7:¬ 9223372036854775807 < X6.size + D2.size:=by omega
 have k8:¬ 9223372036854775807 < X7.size + 2:=by omega
 clear HS HT m0 m1 m2 m3 m4 m5 m6 hg s1 s2 s3 s4 s5 s6 s7 z1 z2 z3 z4 z5 z6 z7 hn hk
 go_region_held3 (fun W => Hid (HB w (KH) w.heap.size #[.int .i64 (n:Int),.string l,.int .i64 (k:Int),.string u,.string m,.string v,.string e] W) /\ W.cell? ⟨w.heap.size,0,none⟩ = some (.int .i64 (n:Int)) /\ W.cell? ⟨w.heap.size,1,none⟩ = some (.string l) /\ W.cell? ⟨w.heap.size,2,none⟩ = some (.int .i64 (k:Int)) /\ W.cell? ⟨w.heap.size,3,none⟩ = some (.string u) /\ W.cell? ⟨w.heap.size,4,none⟩ = some (.string m) /\ W.cell? ⟨w.heap.size,5,none⟩ = some (.string v) /\ W.cell? ⟨w.heap.size,6,none⟩ = some (.string e))
   (first | exact hb7 (by assumption) | exact hb7 (hbdrew (by assumption)))
   (first
     | (go_at_call 142; with_reducible refine c3.calls0 ?_; intro wy hby; have hpy:=hbstep hby (by first | assumption | exact hbdrew (by assumption)); clear hby)
     | (go_at_call 142; with_reducible refine c4.calls0 ?_; intro wy hby; have hpy:=hbstep hby (by first | assumption | exact hbdrew (by assumption)); clear hby))
 all_goals
   go_wp2_with fail
   go_ret2
   exact ⟨rfl,(Hid.out (by first | assumption | exact hbdrew (by assumption)):HB w (KH) w.heap.size _ _).since⟩
set_option maxHeartbeats 8000000 in
theorem enc_bad (n k:Int) (l u m v e:ByteArray) (M:Int) (hM:(M == 0) = true) (c1:KMk KH 84 #[.string l] (.int .i64 M)):KMk KH 99 #[.agg #[.int .i64 n,.string l,.int .i64 k,.string u,.string m,.string v,.string e]] (.tuple #[.string ⟨#[]⟩,.int .i64 1]):=by
 intro w hT
 have hp:=lH (hb_new w KH hT #[.int .i64 n,.string l,.int .i64 k,.string u,.string m,.string v,.string e] 112)
 obtain ⟨_,m0,m1,m2,m3,m4,m5,m6⟩:=hb7 hp
 have hg:=hp.out.lg
 have HS:=lH hp.out.since
 have HT:=lH hp.out.tabs
 by_cases h1:n < 0
 · have t1:decide (n < 0) = true:=decide_eq_true h1
   go_enter Tryz.func99,Tryz.ntmps99
   go_wp2_with fail
   go_ret2
   exact ⟨rfl,HS.out⟩
 have t1:decide (n < 0) = false:=decide_eq_false h1
 by_cases h2:9999 < n
 · have t2:decide (9999 < n) = true:=decide_eq_true h2
   go_enter Tryz.func99,Tryz.ntmps99
   go_wp2_with fail
   go_ret2
   exact ⟨rfl,HS.out⟩
 have t2:decide (9999 < n) = false:=decide_eq_false h2
 by_cases h3:k < 0
 · have t3:decide (k < 0) = true:=decide_eq_true h3
   go_enter Tryz.func99,Tryz.ntmps99
   go_wp2_with fail
   go_ret2
   exact ⟨rfl,HS.out⟩
 have t3:decide (k < 0) = false:=decide_eq_false h3
 by_cases h4:99 < k
 · have t4:decide (99 < k) = true:=decide_eq_true h4
   go_enter Tryz.func99,Tryz.ntmps99
   go_wp2_with fail
   go_ret2
   exact ⟨rfl,HS.out⟩
 have t4:decide (99 < k) = false:=decide_eq_false h4
 go_enter Tryz.func99,Tryz.ntmps99
 go_wp2_with fail
 repeat (with_reducible refine c1.calls0 HT.out ?_; intro wz hz; replace m0:=(Below.cell hz (by exact hg)).trans m0; replace m1:=(Below.cell hz (by exact hg)).trans m1; replace m2:=(Below.cell hz (by exact hg)).trans m2; replace m3:=(Below.cell hz (by exact hg)).trans m3; replace m4:=(Below.cell hz (by exact hg)).trans m4; replace m5:=(Below.cell hz (by exact hg)).trans m5; replace m6:=(Below.cell hz (by exact hg)).trans m6; replace hg:=Nat.lt_of_lt_of_le hg (Below.size hz); replace HT:=lH (Kp.keep HT.out hz); replace HS:=lH (HS.out.step hz); clear hz; try go_wp2_with fail)
 go_ret2
 exact ⟨rfl,HS.out⟩
set_option maxHeartbeats 8000000 in
theorem enc_out (n k:Int) (hb:n < 0 ∨ 9999 < n ∨ k < 0 ∨ 99 < k) (l u m v e:ByteArray):KMk KH 99 #[.agg #[.int .i64 n,.string l,.int .i64 k,.string u,.string m,.string v,.string e]] (.tuple #[.string ⟨#[]⟩,.int .i64 1]):=by
 intro w hT
 have hp:=lH (hb_new w KH hT #[.int .i64 n,.string l,.int .i64 k,.string u,.string m,.string v,.string e] 112)
 obtain ⟨_,m0,m1,m2,m3,m4,m5,m6⟩:=hb7 hp
 have HS:=lH hp.out.since
 by_cases h1:n < 0
 · have t1:decide (n < 0) = true:=decide_eq_true h1
   clear hb
   go_enter Tryz.func99,Tryz.ntmps99
   go_wp2_with fail
   go_ret2
   exact ⟨rfl,HS.out⟩
 have t1:decide (n < 0) = false:=decide_eq_false h1
 by_cases h2:9999 < n
 · have t2:decide (9999 < n) = true:=decide_eq_true h2
   clear hb
   go_enter Tryz.func99,Tryz.ntmps99
   go_wp2_with fail
   go_ret2
   exact ⟨rfl,HS.out⟩
 have t2:decide (9999 < n) = false:=decide_eq_false h2
 by_cases h3:k < 0
 · have t3:decide (k < 0) = true:=decide_eq_true h3
   clear hb
   go_enter Tryz.func99,Tryz.ntmps99
   go_wp2_with fail
   go_ret2
   exact ⟨rfl,HS.out⟩
 have t3:decide (k < 0) = false:=decide_eq_false h3
 have t4:decide (99 < k) = true:=decide_eq_true (by omega)
 clear hb
 go_enter Tryz.func99,Tryz.ntmps99
 go_wp2_with fail
 go_ret2
 exact ⟨rfl,HS.out⟩
set_option maxHeartbeats 8000000 in
theorem enc_chk (n k:Nat) (hn:n <= 9999) (hk:k <= 99) (l u m v e:ByteArray) (M:Int) (hM:(M == 0) = false) (c1:KMk KH 84 #[.string l] (.int .i64 M)) (c2:KMk KH 52 #[.agg #[.string u,.string m,.string v,.string e],.string l] (.int .i64 12)) :
   KMk KH 99 #[.agg #[.int .i64 (n:Int),.string l,.int .i64 (k:Int),.string u,.string m,.string v,.string e]] (.tuple #[.string ⟨#[]⟩,.int .i64 12]):=by
 intro w hT
 have hp:=lH (hb_new w KH hT #[.int .i64 (n:Int),.string l,.int .i64 (k:Int),.string u,.string m,.string v,.string e] 112)
 obtain ⟨_,m0,m1,m2,m3,m4,m5,m6⟩:=hb7 hp
 have hg:=hp.out.lg
 have HS:=lH hp.out.since
 have HT:=lH hp.out.tabs
 go_enter Tryz.func99,Tryz.ntmps99
 go_wp2_with fail
 repeat ((first | with_reducible refine c1.calls0 HT.out ?_ | with_reducible refine c2.calls0 HT.out ?_); intro wz hz; replace m0:=(Below.cell hz (by exact hg)).trans m0; replace m1:=(Below.cell hz (by exact hg)).trans m1; replace m2:=(Below.cell hz (by exact hg)).trans m2; replace m3:=(Below.cell hz (by exact hg)).trans m3; replace m4:=(Below.cell hz (by exact hg)).trans m4; replace m5:=(Below.cell hz (by exact hg)).trans m5; replace m6:=(Below.cell hz (by exact hg)).trans m6; replace hg:=Nat.lt_of_lt_of_le hg (Below.size hz); replace HT:=lH (Kp.keep HT.out hz); replace HS:=lH (HS.out.step hz); clear hz; try go_wp2_with fail)
 go_ret2
 exact ⟨rfl,HS.out⟩
def decS (W n:Nat):ByteArray:=strOfNums ((List.range W).map fun i => Dig.dg n (W - 1 - i))
theorem decS_size (W n:Nat):(decS W n).size = W:=by unfold decS; rw [strOfNums_size]; simp
theorem dec_mak (n W:Nat) (hn:n < 10 ^ W) (h0:1 <= W) (h1:W <= 18):Mak 142 #[.int .i64 (n:Int),.int .i64 (W:Int)] (.string (decS W n)):=fun w => by
 have hb:10 ^ W <= 10 ^ 18:=Nat.pow_le_pow_right (by decide) h1
 exact Dig.dec_mid n W w (by omega) h0 h1 _ (if_pos hn).symm
def InN (n k:Int) (l:List UInt8):Prop:=0 <= n /\ n <= 9999 /\ 0 <= k /\ k <= 99 /\ Kind.mostN l ≠ 0
instance (n k:Int) (l:List UInt8):Decidable (InN n k l):=by unfold InN; infer_instance
def encX (n k:Int) (l u m v e:ByteArray):ByteArray:=if InN n k l.data.toList /\ Table.okB u.data.toList m.data.toList v.data.toList e.data.toList l.data.toList = true then catS (decS 4 n.toNat) u l m v e (decS 2 k.toNat) else ⟨#[]⟩
def encE (n k:Int) (l u m v e:ByteArray):Int:=if InN n k l.data.toList then (if Table.okB u.data.toList m.data.toList v.data.toList e.data.toList l.data.toList then 0 else 12) else 1
theorem most_len (l:ByteArray) (h:Kind.mostN l.data.toList ≠ 0):l.size = 1:=by
 have hall:∀ r ∈ Kind.rows,r.2.2.1.length = 1:=by decide +kernel
 apply Classical.byContradiction
 intro h1
 apply h
 unfold Kind.mostN Kind.mostF
 have e:((Kind.rows.take 11).filter (fun r => r.2.2.1 == l.data.toList)) = []:=by
   rw [List.filter_eq_nil_iff]
   intro r hr hq
   rw [beq_iff_eq] at hq
   have h2:=hall r (List.mem_of_mem_take hr)
   rw [hq] at h2
   exact h1 h2
 rw [e]; rfl
theorem enc_any (n k:Int) (l u m v e:ByteArray) (hz:u.size <= 100 /\ m.size <= 100 /\ v.size <= 100 /\ e.size <= 100) (X:ByteArray) (E:Int) (hX:X = encX n k l u m v e) (hE:E = encE n k l u m v e):KMk KH 99 #[.agg #[.int .i64 n,.string l,.int .i64 k,.string u,.string m,.string v,.string e]] (.tuple #[.string X,.int .i64 E]):=by
 unfold encX at hX
 unfold encE at hE
 by_cases hi:InN n k l.data.toList
 · have hi2:=hi
   obtain ⟨i1,i2,i3,i4,i5⟩:=hi2
   obtain ⟨n,rfl⟩:=Int.eq_ofNat_of_zero_le i1
   obtain ⟨k,rfl⟩:=Int.eq_ofNat_of_zero_le i3
   have c1:=most_h l _ rfl
   have hM:(Kind.mostN l.data.toList == 0) = false:=by rw [beq_eq_false_iff_ne]; exact i5
   have c2:=check_h u m v e l _ rfl
   rw [if_pos hi] at hE
   by_cases hk:Table.okB u.data.toList m.data.toList v.data.toList e.data.toList l.data.toList = true
   · rw [if_pos ⟨hi,hk⟩] at hX
     rw [if_pos hk] at hE c2
     subst hX hE
     have h4:=decS_size 4 n
     have h2:=decS_size 2 k
     have hl:=most_len l i5
     obtain ⟨X1,X2,X3,X4,X5,X6,X7,hc⟩:=cats_any (decS 4 n) u l m v e (decS 2 k) ⟨by omega,hz.1,by omega,hz.2.1,hz.2.2.1,hz.2.2.2,by omega⟩
     exact enc_yes n k (by omega) (by omega) l u m v e _ _ _ X1 X2 X3 X4 X5 X6 X7 _ hM hc c1 c2 (dec_mak n 4 (by omega) (by decide) (by decide)) (dec_mak k 2 (by omega) (by decide) (by decide))
   · rw [if_neg (fun h => hk h.2)] at hX
     rw [if_neg hk] at hE c2
     subst hX hE
     exact enc_chk n k (by omega) (by omega) l u m v e _ hM c1 c2
 · rw [if_neg (fun h => hi h.1)] at hX
   rw [if_neg hi] at hE
   subst hX hE
   by_cases hb:n < 0 ∨ 9999 < n ∨ k < 0 ∨ 99 < k
   · exact enc_out n k hb l u m v e
   · have h0:Kind.mostN l.data.toList = 0:=by
       apply Classical.byContradiction
       intro h
       exact hi ⟨by omega,by omega,by omega,by omega,h⟩
     have c1:=most_h l _ rfl
     exact enc_bad n k l u m v e _ (by rw [beq_iff_eq]; exact h0) c1
end Header
namespace Header
def Z7:Array Value:=#[.int .i64 0,.string ⟨#[]⟩,.int .i64 0,.string ⟨#[]⟩,.string ⟨#[]⟩,.string ⟨#[]⟩,.string ⟨#[]⟩]
def C7 (n k:Int) (l u m v e:ByteArray):Array Value:=#[.int .i64 n,.string l,.int .i64 k,.string u,.string m,.string v,.string e]
theorem c7_one (n k:Int) (l u m v e:ByteArray):(C7 n k l u m v e).all (·.oneCell') = true:=by
 rw [Array.all_eq_true]
 intro i hi
 match i,hi with
 | 0,_ | 1,_ | 2,_ | 3,_ | 4,_ | 5,_ | 6,_ => rfl
theorem c7_info (n k:Int) (l u m v e:ByteArray):(Tryz.prog.info? 112).map (·.size) = some (C7 n k l u m v e).size:=by kernel_rfl
theorem rc7_info (n k:Int) (l u m v e:ByteArray):(Tryz.prog.info? 82).map (·.size) = some (C7 n k l u m v e).size:=by kernel_rfl
structure Cut7 (s P1 P2 L U M V E A Z:ByteArray):Prop where
 h:16 <= s.size
 hm:s.size <= 1000000
 p1:s.extract 1 5 = P1
 p2:s.extract 12 14 = P2
 l:s.extract 7 8 = L
 u:s.extract 5 7 = U
 m:s.extract 8 9 = M
 v:s.extract 9 11 = V
 e:s.extract 11 12 = E
 a:s.extract 0 1 = A
 z:s.extract 14 16 = Z
theorem dec_short (s:ByteArray) (h:s.size < 16):Mak 163 #[.string s] (.tuple #[.agg Z7,.int .i64 5]):=by
 intro w
 have t1:decide ((s.size:Int) < 16) = true:=decide_eq_true (by omega)
 have HB:=lH (heap_alloc_new w (.cells Z7 112))
 unfold Z7 at HB
 go_enter Tryz.func163,Tryz.ntmps163
 go_wp2_with (refine wpList_store_row rfl 112 _ _ rfl w.heap.size (C7 0 0 ⟨#[]⟩ ⟨#[]⟩ ⟨#[]⟩ ⟨#[]⟩ ⟨#[]⟩) (by rfl) (by rfl) _ _ HB.out (c7_info _ _ _ _ _ _ _) rfl (c7_one _ _ _ _ _ _ _) ?_)
 exact bodyPost_ret (v:=.tuple #[.agg Z7,.int .i64 5]) (results_cell_tmp2 Tryz.results163 _ _ _ _ _ _ _ _ rfl rfl (setRow_heap _ _ _ _ _ _ HB.out) Tryz.underlying112 rfl (c7_info _ _ _ _ _ _ _)) rfl ⟨rfl,below_setRow ((Since.refl w).alloc _) (Nat.le_refl _) _⟩
set_option maxHeartbeats 8000000 in
theorem dec_form (s P1 P2 L U M V E A Z:ByteArray) (h:Cut7 s P1 P2 L U M V E A Z) (N1 N2 X:Int) (b1 b2 p q:Bool) (hp:(A.toList == [68]) = p) (hq:(Z.toList == [48,48]) = q) (hX:(p && b1 && b2 && q) = true -> (X == 0) = true)
   (c1:Ret 198 #[.string P1] (.tuple #[.int .i64 N1,.bool b1])) (c2:Ret 198 #[.string P2] (.tuple #[.int .i64 N2,.bool b2])) (c3:KMk KH 84 #[.string L] (.int .i64 X)):KMk KH 163 #[.string s] (.tuple #[.agg Z7,.int .i64 5]):=by
 intro w hT
 obtain ⟨h16,hm,e1,e2,e3,e4,e5,e6,e7,e8,e9⟩:=h
 have t1:decide ((s.size:Int) < 16) = false:=decide_eq_false (by omega)
 have i0:(1:Int) <= (s.size:Int):=by omega
 have i1:(5:Int) <= (s.size:Int):=by omega
 have i2:(7:Int) <= (s.size:Int):=by omega
 have i3:(8:Int) <= (s.size:Int):=by omega
 have i4:(9:Int) <= (s.size:Int):=by omega
 have i5:(11:Int) <= (s.size:Int):=by omega
 have i6:(12:Int) <= (s.size:Int):=by omega
 have i7:(14:Int) <= (s.size:Int):=by omega
 have i8:(16:Int) <= (s.size:Int):=by omega
 cases p
 · clear hX
   go_enter Tryz.func163,Tryz.ntmps163
   go_wp2_with fail
   repeat ((first | with_reducible refine c1.calls ?_ | with_reducible refine c2.calls ?_); try go_wp2_with fail)
   go_region
   obtain ⟨W2,hW2⟩:∃ W2,W2 = ((w.alloc (.cells Z7 112)).alloc (.cells (C7 N1 N2 L U M V E) 112)).drew:=⟨_,rfl⟩
   have hw1:(w.alloc (.cells Z7 112)).heap.size = w.heap.size + 1:=by simp
   have hs1:Since w (w.alloc (.cells Z7 112)):=(Since.refl w).alloc _
   have hd1:Below ((w.alloc (.cells Z7 112)).alloc (.cells (C7 N1 N2 L U M V E) 112)).heap.size ((w.alloc (.cells Z7 112)).alloc (.cells (C7 N1 N2 L U M V E) 112)) ((w.alloc (.cells Z7 112)).alloc (.cells (C7 N1 N2 L U M V E) 112)).drew:=Below.drew (Below.refl _ _)
   have hb:=(hb_new (w.alloc (.cells Z7 112)) (KH) (Kp.keep hT hs1) (C7 N1 N2 L U M V E) 112).step hd1
   rw [hw1,<- hW2] at hb
   have hp:Hid (HB w (KH) (w.heap.size + 1) (C7 N1 N2 L U M V E) W2):=lH ⟨hs1.step hb.since,hb.tabs,hb.cell,hb.lg⟩
   have hr:Hid (HR w w.heap.size Z7 112 W2):=lH (by rw [hW2]; exact (hr_old ⟨heap_alloc_new w _⟩ _).step hd1)
   have hW3:=hW2
   unfold Z7 C7 at hW3
   rw [<- hW3]
   clear hW3 hW2 hb hd1 hs1 hw1
   obtain ⟨_,m0,m1,m2,m3,m4,m5,m6⟩:=hb7 hp
   have hg:=hp.out.lg
   have HS:=lH hp.out.since
   have HT:=lH hp.out.tabs
   go_wp2_with (refine wpList_store_row rfl 112 _ _ rfl w.heap.size (C7 0 0 ⟨#[]⟩ ⟨#[]⟩ ⟨#[]⟩ ⟨#[]⟩ ⟨#[]⟩) (by rfl) (by rfl) _ _ hr.out.row (c7_info _ _ _ _ _ _ _) rfl (c7_one _ _ _ _ _ _ _) ?_)
   exact bodyPost_ret (v:=.tuple #[.agg Z7,.int .i64 5]) (results_cell_tmp2 Tryz.results163 _ _ _ _ _ _ _ _ rfl rfl (setRow_heap _ _ _ _ _ _ hr.out.row) Tryz.underlying112 rfl (c7_info _ _ _ _ _ _ _)) rfl ⟨rfl,below_setRow HS.out (Nat.le_refl _) _⟩
 · cases b1
   · clear hX
     go_enter Tryz.func163,Tryz.ntmps163
     go_wp2_with fail
     repeat ((first | with_reducible refine c1.calls ?_ | with_reducible refine c2.calls ?_); try go_wp2_with fail)
     go_region
     obtain ⟨W2,hW2⟩:∃ W2,W2 = ((w.alloc (.cells Z7 112)).alloc (.cells (C7 N1 N2 L U M V E) 112)).drew:=⟨_,rfl⟩
     have hw1:(w.alloc (.cells Z7 112)).heap.size = w.heap.size + 1:=by simp
     have hs1:Since w (w.alloc (.cells Z7 112)):=(Since.refl w).alloc _
     have hd1:Below ((w.alloc (.cells Z7 112)).alloc (.cells (C7 N1 N2 L U M V E) 112)).heap.size ((w.alloc (.cells Z7 112)).alloc (.cells (C7 N1 N2 L U M V E) 112)) ((w.alloc (.cells Z7 112)).alloc (.cells (C7 N1 N2 L U M V E) 112)).drew:=Below.drew (Below.refl _ _)
     have hb:=(hb_new (w.alloc (.cells Z7 112)) (KH) (Kp.keep hT hs1) (C7 N1 N2 L U M V E) 112).step hd1
     rw [hw1,<- hW2] at hb
     have hp:Hid (HB w (KH) (w.heap.size + 1) (C7 N1 N2 L U M V E) W2):=lH ⟨hs1.step hb.since,hb.tabs,hb.cell,hb.lg⟩
     have hr:Hid (HR w w.heap.size Z7 112 W2):=lH (by rw [hW2]; exact (hr_old ⟨heap_alloc_new w _⟩ _).step hd1)
     have hW3:=hW2
     unfold Z7 C7 at hW3
     rw [<- hW3]
     clear hW3 hW2 hb hd1 hs1 hw1
     obtain ⟨_,m0,m1,m2,m3,m4,m5,m6⟩:=hb7 hp
     have hg:=hp.out.lg
     have HS:=lH hp.out.since
     have HT:=lH hp.out.tabs
     go_wp2_with (refine wpList_store_row rfl 112 _ _ rfl w.heap.size (C7 0 0 ⟨#[]⟩ ⟨#[]⟩ ⟨#[]⟩ ⟨#[]⟩ ⟨#[]⟩) (by rfl) (by rfl) _ _ hr.out.row (c7_info _ _ _ _ _ _ _) rfl (c7_one _ _ _ _ _ _ _) ?_)
     exact bodyPost_ret (v:=.tuple #[.agg Z7,.int .i64 5]) (results_cell_tmp2 Tryz.results163 _ _ _ _ _ _ _ _ rfl rfl (setRow_heap _ _ _ _ _ _ hr.out.row) Tryz.underlying112 rfl (c7_info _ _ _ _ _ _ _)) rfl ⟨rfl,below_setRow HS.out (Nat.le_refl _) _⟩
   · cases b2
     · clear hX
       go_enter Tryz.func163,Tryz.ntmps163
       go_wp2_with fail
       repeat ((first | with_reducible refine c1.calls ?_ | with_reducible refine c2.calls ?_); try go_wp2_with fail)
       go_region
       obtain ⟨W2,hW2⟩:∃ W2,W2 = ((w.alloc (.cells Z7 112)).alloc (.cells (C7 N1 N2 L U M V E) 112)).drew:=⟨_,rfl⟩
       have hw1:(w.alloc (.cells Z7 112)).heap.size = w.heap.size + 1:=by simp
       have hs1:Since w (w.alloc (.cells Z7 112)):=(Since.refl w).alloc _
       have hd1:Below ((w.alloc (.cells Z7 112)).alloc (.cells (C7 N1 N2 L U M V E) 112)).heap.size ((w.alloc (.cells Z7 112)).alloc (.cells (C7 N1 N2 L U M V E) 112)) ((w.alloc (.cells Z7 112)).alloc (.cells (C7 N1 N2 L U M V E) 112)).drew:=Below.drew (Below.refl _ _)
       have hb:=(hb_new (w.alloc (.cells Z7 112)) (KH) (Kp.keep hT hs1) (C7 N1 N2 L U M V E) 112).step hd1
       rw [hw1,<- hW2] at hb
       have hp:Hid (HB w (KH) (w.heap.size + 1) (C7 N1 N2 L U M V E) W2):=lH ⟨hs1.step hb.since,hb.tabs,hb.cell,hb.lg⟩
       have hr:Hid (HR w w.heap.size Z7 112 W2):=lH (by rw [hW2]; exact (hr_old ⟨heap_alloc_new w _⟩ _).step hd1)
       have hW3:=hW2
       unfold Z7 C7 at hW3
       rw [<- hW3]
       clear hW3 hW2 hb hd1 hs1 hw1
       obtain ⟨_,m0,m1,m2,m3,m4,m5,m6⟩:=hb7 hp
       have hg:=hp.out.lg
       have HS:=lH hp.out.since
       have HT:=lH hp.out.tabs
       go_wp2_with (refine wpList_store_row rfl 112 _ _ rfl w.heap.size (C7 0 0 ⟨#[]⟩ ⟨#[]⟩ ⟨#[]⟩ ⟨#[]⟩ ⟨#[]⟩) (by rfl) (by rfl) _ _ hr.out.row (c7_info _ _ _ _ _ _ _) rfl (c7_one _ _ _ _ _ _ _) ?_)
       exact bodyPost_ret (v:=.tuple #[.agg Z7,.int .i64 5]) (results_cell_tmp2 Tryz.results163 _ _ _ _ _ _ _ _ rfl rfl (setRow_heap _ _ _ _ _ _ hr.out.row) Tryz.underlying112 rfl (c7_info _ _ _ _ _ _ _)) rfl ⟨rfl,below_setRow HS.out (Nat.le_refl _) _⟩
     · cases q
       · clear hX
         go_enter Tryz.func163,Tryz.ntmps163
         go_wp2_with fail
         repeat ((first | with_reducible refine c1.calls ?_ | with_reducible refine c2.calls ?_); try go_wp2_with fail)
         go_region
         obtain ⟨W2,hW2⟩:∃ W2,W2 = ((w.alloc (.cells Z7 112)).alloc (.cells (C7 N1 N2 L U M V E) 112)).drew:=⟨_,rfl⟩
         have hw1:(w.alloc (.cells Z7 112)).heap.size = w.heap.size + 1:=by simp
         have hs1:Since w (w.alloc (.cells Z7 112)):=(Since.refl w).alloc _
         have hd1:Below ((w.alloc (.cells Z7 112)).alloc (.cells (C7 N1 N2 L U M V E) 112)).heap.size ((w.alloc (.cells Z7 112)).alloc (.cells (C7 N1 N2 L U M V E) 112)) ((w.alloc (.cells Z7 112)).alloc (.cells (C7 N1 N2 L U M V E) 112)).drew:=Below.drew (Below.refl _ _)
         have hb:=(hb_new (w.alloc (.cells Z7 112)) (KH) (Kp.keep hT hs1) (C7 N1 N2 L U M V E) 112).step hd1
         rw [hw1,<- hW2] at hb
         have hp:Hid (HB w (KH) (w.heap.size + 1) (C7 N1 N2 L U M V E) W2):=lH ⟨hs1.step hb.since,hb.tabs,hb.cell,hb.lg⟩
         have hr:Hid (HR w w.heap.size Z7 112 W2):=lH (by rw [hW2]; exact (hr_old ⟨heap_alloc_new w _⟩ _).step hd1)
         have hW3:=hW2
         unfold Z7 C7 at hW3
         rw [<- hW3]
         clear hW3 hW2 hb hd1 hs1 hw1
         obtain ⟨_,m0,m1,m2,m3,m4,m5,m6⟩:=hb7 hp
         have hg:=hp.out.lg
         have HS:=lH hp.out.since
         have HT:=lH hp.out.tabs
         go_wp2_with (refine wpList_store_row rfl 112 _ _ rfl w.heap.size (C7 0 0 ⟨#[]⟩ ⟨#[]⟩ ⟨#[]⟩ ⟨#[]⟩ ⟨#[]⟩) (by rfl) (by rfl) _ _ hr.out.row (c7_info _ _ _ _ _ _ _) rfl (c7_one _ _ _ _ _ _ _) ?_)
         exact bodyPost_ret (v:=.tuple #[.agg Z7,.int .i64 5]) (results_cell_tmp2 Tryz.results163 _ _ _ _ _ _ _ _ rfl rfl (setRow_heap _ _ _ _ _ _ hr.out.row) Tryz.underlying112 rfl (c7_info _ _ _ _ _ _ _)) rfl ⟨rfl,below_setRow HS.out (Nat.le_refl _) _⟩
       · have hX2:=hX rfl
         clear hX
         go_enter Tryz.func163,Tryz.ntmps163
         go_wp2_with fail
         repeat ((first | with_reducible refine c1.calls ?_ | with_reducible refine c2.calls ?_); try go_wp2_with fail)
         go_region
         obtain ⟨W2,hW2⟩:∃ W2,W2 = ((w.alloc (.cells Z7 112)).alloc (.cells (C7 N1 N2 L U M V E) 112)).drew:=⟨_,rfl⟩
         have hw1:(w.alloc (.cells Z7 112)).heap.size = w.heap.size + 1:=by simp
         have hs1:Since w (w.alloc (.cells Z7 112)):=(Since.refl w).alloc _
         have hd1:Below ((w.alloc (.cells Z7 112)).alloc (.cells (C7 N1 N2 L U M V E) 112)).heap.size ((w.alloc (.cells Z7 112)).alloc (.cells (C7 N1 N2 L U M V E) 112)) ((w.alloc (.cells Z7 112)).alloc (.cells (C7 N1 N2 L U M V E) 112)).drew:=Below.drew (Below.refl _ _)
         have hb:=(hb_new (w.alloc (.cells Z7 112)) (KH) (Kp.keep hT hs1) (C7 N1 N2 L U M V E) 112).step hd1
         rw [hw1,<- hW2] at hb
         have hp:Hid (HB w (KH) (w.heap.size + 1) (C7 N1 N2 L U M V E) W2):=lH ⟨hs1.step hb.since,hb.tabs,hb.cell,hb.lg⟩
         have hr:Hid (HR w w.heap.size Z7 112 W2):=lH (by rw [hW2]; exact (hr_old ⟨heap_alloc_new w _⟩ _).step hd1)
         have hW3:=hW2
         unfold Z7 C7 at hW3
         rw [<- hW3]
         clear hW3 hW2 hb hd1 hs1 hw1
         obtain ⟨_,m0,m1,m2,m3,m4,m5,m6⟩:=hb7 hp
         have hg:=hp.out.lg
         have HS:=lH hp.out.since
         have HT:=lH hp.out.tabs
         go_wp2_with fail
         refine c3.calls0 HT.out ?_
         intro wz hz
         replace hp:=lH (hp.out.step hz)
         replace hr:=lH (hr.out.step hz)
         replace m0:=(Below.cell hz (by exact hg)).trans m0
         replace m1:=(Below.cell hz (by exact hg)).trans m1
         replace m2:=(Below.cell hz (by exact hg)).trans m2
         replace m3:=(Below.cell hz (by exact hg)).trans m3
         replace m4:=(Below.cell hz (by exact hg)).trans m4
         replace m5:=(Below.cell hz (by exact hg)).trans m5
         replace m6:=(Below.cell hz (by exact hg)).trans m6
         replace hg:=Nat.lt_of_lt_of_le hg (Below.size hz)
         replace HT:=lH (Kp.keep HT.out hz)
         replace HS:=lH (HS.out.step hz)
         clear hz
         go_wp2_with (refine wpList_store_row rfl 112 _ _ rfl w.heap.size (C7 0 0 ⟨#[]⟩ ⟨#[]⟩ ⟨#[]⟩ ⟨#[]⟩ ⟨#[]⟩) (by rfl) (by rfl) _ _ hr.out.row (c7_info _ _ _ _ _ _ _) rfl (c7_one _ _ _ _ _ _ _) ?_)
         exact bodyPost_ret (v:=.tuple #[.agg Z7,.int .i64 5]) (results_cell_tmp2 Tryz.results163 _ _ _ _ _ _ _ _ rfl rfl (setRow_heap _ _ _ _ _ _ hr.out.row) Tryz.underlying112 rfl (c7_info _ _ _ _ _ _ _)) rfl ⟨rfl,below_setRow HS.out (Nat.le_refl _) _⟩
set_option maxHeartbeats 8000000 in
theorem dec_chk (s P1 P2 L U M V E A Z:ByteArray) (h:Cut7 s P1 P2 L U M V E A Z) (N1 N2 X:Int) (hp:(A.toList == [68]) = true) (hq:(Z.toList == [48,48]) = true) (hX:(X == 0) = false)
   (c1:Ret 198 #[.string P1] (.tuple #[.int .i64 N1,.bool true])) (c2:Ret 198 #[.string P2] (.tuple #[.int .i64 N2,.bool true])) (c3:KMk KH 84 #[.string L] (.int .i64 X))
   (c4:KMk KH 52 #[.agg #[.string U,.string M,.string V,.string E],.string L] (.int .i64 12)):KMk KH 163 #[.string s] (.tuple #[.agg Z7,.int .i64 12]):=by
 intro w hT
 obtain ⟨h16,hm,e1,e2,e3,e4,e5,e6,e7,e8,e9⟩:=h
 have t1:decide ((s.size:Int) < 16) = false:=decide_eq_false (by omega)
 have i0:(1:Int) <= (s.size:Int):=by omega
 have i1:(5:Int) <= (s.size:Int):=by omega
 have i2:(7:Int) <= (s.size:Int):=by omega
 have i3:(8:Int) <= (s.size:Int):=by omega
 have i4:(9:Int) <= (s.size:Int):=by omega
 have i5:(11:Int) <= (s.size:Int):=by omega
 have i6:(12:Int) <= (s.size:Int):=by omega
 have i7:(14:Int) <= (s.size:Int):=by omega
 have i8:(16:Int) <= (s.size:Int):=by omega
 go_enter Tryz.func163,Tryz.ntmps163
 go_wp2_with fail
 repeat ((first | with_reducible refine c1.calls ?_ | with_reducible refine c2.calls ?_); try go_wp2_with fail)
 go_region
 obtain ⟨W2,hW2⟩:∃ W2,W2 = ((w.alloc (.cells Z7 112)).alloc (.cells (C7 N1 N2 L U M V E) 112)).drew:=⟨_,rfl⟩
 have hw1:(w.alloc (.cells Z7 112)).heap.size = w.heap.size + 1:=by simp
 have hs1:Since w (w.alloc (.cells Z7 112)):=(Since.refl w).alloc _
 have hd1:Below ((w.alloc (.cells Z7 112)).alloc (.cells (C7 N1 N2 L U M V E) 112)).heap.size ((w.alloc (.cells Z7 112)).alloc (.cells (C7 N1 N2 L U M V E) 112)) ((w.alloc (.cells Z7 112)).alloc (.cells (C7 N1 N2 L U M V E) 112)).drew:=Below.drew (Below.refl _ _)
 have hb:=(hb_new (w.alloc (.cells Z7 112)) (KH) (Kp.keep hT hs1) (C7 N1 N2 L U M V E) 112).step hd1
 rw [hw1,<- hW2] at hb
 have hp:Hid (HB w (KH) (w.heap.size + 1) (C7 N1 N2 L U M V E) W2):=lH ⟨hs1.step hb.since,hb.tabs,hb.cell,hb.lg⟩
 have hr:Hid (HR w w.heap.size Z7 112 W2):=lH (by rw [hW2]; exact (hr_old ⟨heap_alloc_new w _⟩ _).step hd1)
 have hW3:=hW2
 unfold Z7 C7 at hW3
 rw [<- hW3]
 clear hW3 hW2 hb hd1 hs1 hw1
 obtain ⟨_,m0,m1,m2,m3,m4,m5,m6⟩:=hb7 hp
 have hg:=hp.out.lg
 have HS:=lH hp.out.since
 have HT:=lH hp.out.tabs
 go_wp2_with fail
 refine c3.calls0 HT.out ?_
 intro wz hz
 replace hp:=lH (hp.out.step hz)
 replace hr:=lH (hr.out.step hz)
 replace m0:=(Below.cell hz (by exact hg)).trans m0
 replace m1:=(Below.cell hz (by exact hg)).trans m1
 replace m2:=(Below.cell hz (by exact hg)).trans m2
 replace m3:=(Below.cell hz (by exact hg)).trans m3
 replace m4:=(Below.cell hz (by exact hg)).trans m4
 replace m5:=(Below.cell hz (by exact hg)).trans m5
 replace m6:=(Below.cell hz (by exact hg)).trans m6
 replace hg:=Nat.lt_of_lt_of_le hg (Below.size hz)
 replace HT:=lH (Kp.keep HT.out hz)
 replace HS:=lH (HS.out.step hz)
 clear hz
 go_wp2_with fail
 refine c4.calls0 HT.out ?_
 intro wz hz
 replace hp:=lH (hp.out.step hz)
 replace hr:=lH (hr.out.step hz)
 replace m0:=(Below.cell hz (by exact hg)).trans m0
 replace m1:=(Below.cell hz (by exact hg)).trans m1
 replace m2:=(Below.cell hz (by exact hg)).trans m2
 replace m3:=(Below.cell hz (by exact hg)).trans m3
 replace m4:=(Below.cell hz (by exact hg)).trans m4
 replace m5:=(Below.cell hz (by exact hg)).trans m5
 replace m6:=(Below.cell hz (by exact hg)).trans m6
 replace hg:=Nat.lt_of_lt_of_le hg (Below.size hz)
 replace HT:=lH (Kp.keep HT.out hz)
 replace HS:=lH (HS.out.step hz)
 clear hz
 go_wp2_with (refine wpList_store_row rfl 112 _ _ rfl w.heap.size (C7 0 0 ⟨#[]⟩ ⟨#[]⟩ ⟨#[]⟩ ⟨#[]⟩ ⟨#[]⟩) (by rfl) (by rfl) _ _ hr.out.row (c7_info _ _ _ _ _ _ _) rfl (c7_one _ _ _ _ _ _ _) ?_)
 exact bodyPost_ret (v:=.tuple #[.agg Z7,.int .i64 12]) (results_cell_tmp2 Tryz.results163 _ _ _ _ _ _ _ _ rfl rfl (setRow_heap _ _ _ _ _ _ hr.out.row) Tryz.underlying112 rfl (c7_info _ _ _ _ _ _ _)) rfl ⟨rfl,below_setRow HS.out (Nat.le_refl _) _⟩
set_option maxHeartbeats 8000000 in
theorem dec_ok (s P1 P2 L U M V E A Z:ByteArray) (h:Cut7 s P1 P2 L U M V E A Z) (N1 N2 X:Int) (hp:(A.toList == [68]) = true) (hq:(Z.toList == [48,48]) = true) (hX:(X == 0) = false)
   (c1:Ret 198 #[.string P1] (.tuple #[.int .i64 N1,.bool true])) (c2:Ret 198 #[.string P2] (.tuple #[.int .i64 N2,.bool true])) (c3:KMk KH 84 #[.string L] (.int .i64 X))
   (c4:KMk KH 52 #[.agg #[.string U,.string M,.string V,.string E],.string L] (.int .i64 0)):KMk KH 163 #[.string s] (.tuple #[.agg (C7 N1 N2 L U M V E),.int .i64 0]):=by
 intro w hT
 obtain ⟨h16,hm,e1,e2,e3,e4,e5,e6,e7,e8,e9⟩:=h
 have t1:decide ((s.size:Int) < 16) = false:=decide_eq_false (by omega)
 have i0:(1:Int) <= (s.size:Int):=by omega
 have i1:(5:Int) <= (s.size:Int):=by omega
 have i2:(7:Int) <= (s.size:Int):=by omega
 have i3:(8:Int) <= (s.size:Int):=by omega
 have i4:(9:Int) <= (s.size:Int):=by omega
 have i5:(11:Int) <= (s.size:Int):=by omega
 have i6:(12:Int) <= (s.size:Int):=by omega
 have i7:(14:Int) <= (s.size:Int):=by omega
 have i8:(16:Int) <= (s.size:Int):=by omega
 go_enter Tryz.func163,Tryz.ntmps163
 go_wp2_with fail
 repeat ((first | with_reducible refine c1.calls ?_ | with_reducible refine c2.calls ?_); try go_wp2_with fail)
 go_region
 obtain ⟨W2,hW2⟩:∃ W2,W2 = ((w.alloc (.cells Z7 112)).alloc (.cells (C7 N1 N2 L U M V E) 112)).drew:=⟨_,rfl⟩
 have hw1:(w.alloc (.cells Z7 112)).heap.size = w.heap.size + 1:=by simp
 have hs1:Since w (w.alloc (.cells Z7 112)):=(Since.refl w).alloc _
 have hd1:Below ((w.alloc (.cells Z7 112)).alloc (.cells (C7 N1 N2 L U M V E) 112)).heap.size ((w.alloc (.cells Z7 112)).alloc (.cells (C7 N1 N2 L U M V E) 112)) ((w.alloc (.cells Z7 112)).alloc (.cells (C7 N1 N2 L U M V E) 112)).drew:=Below.drew (Below.refl _ _)
 have hb:=(hb_new (w.alloc (.cells Z7 112)) (KH) (Kp.keep hT hs1) (C7 N1 N2 L U M V E) 112).step hd1
 rw [hw1,<- hW2] at hb
 have hp:Hid (HB w (KH) (w.heap.size + 1) (C7 N1 N2 L U M V E) W2):=lH ⟨hs1.step hb.since,hb.tabs,hb.cell,hb.lg⟩
 have hr:Hid (HR w w.heap.size Z7 112 W2):=lH (by rw [hW2]; exact (hr_old ⟨heap_alloc_new w _⟩ _).step hd1)
 have hW3:=hW2
 unfold Z7 C7 at hW3
 rw [<- hW3]
 clear hW3 hW2 hb hd1 hs1 hw1
 obtain ⟨_,m0,m1,m2,m3,m4,m5,m6⟩:=hb7 hp
 have hg:=hp.out.lg
 have HS:=lH hp.out.since
 have HT:=lH hp.out.tabs
 go_wp2_with fail
 refine c3.calls0 HT.out ?_
 intro wz hz
 replace hp:=lH (hp.out.step hz)
 replace hr:=lH (hr.out.step hz)
 replace m0:=(Below.cell hz (by exact hg)).trans m0
 replace m1:=(Below.cell hz (by exact hg)).trans m1
 replace m2:=(Below.cell hz (by exact hg)).trans m2
 replace m3:=(Below.cell hz (by exact hg)).trans m3
 replace m4:=(Below.cell hz (by exact hg)).trans m4
 replace m5:=(Below.cell hz (by exact hg)).trans m5
 replace m6:=(Below.cell hz (by exact hg)).trans m6
 replace hg:=Nat.lt_of_lt_of_le hg (Below.size hz)
 replace HT:=lH (Kp.keep HT.out hz)
 replace HS:=lH (HS.out.step hz)
 clear hz
 go_wp2_with fail
 refine c4.calls0 HT.out ?_
 intro wz hz
 replace hp:=lH (hp.out.step hz)
 replace hr:=lH (hr.out.step hz)
 replace m0:=(Below.cell hz (by exact hg)).trans m0
 replace m1:=(Below.cell hz (by exact hg)).trans m1
 replace m2:=(Below.cell hz (by exact hg)).trans m2
 replace m3:=(Below.cell hz (by exact hg)).trans m3
 replace m4:=(Below.cell hz (by exact hg)).trans m4
 replace m5:=(Below.cell hz (by exact hg)).trans m5
 replace m6:=(Below.cell hz (by exact hg)).trans m6
 replace hg:=Nat.lt_of_lt_of_le hg (Below.size hz)
 replace HT:=lH (Kp.keep HT.out hz)
 replace HS:=lH (HS.out.step hz)
 clear hz
 go_wp2_with (refine wpList_store_row rfl 112 _ _ rfl w.heap.size (C7 N1 N2 L U M V E) (by rfl) (by rfl) _ _ hr.out.row (c7_info _ _ _ _ _ _ _) rfl (c7_one _ _ _ _ _ _ _) ?_)
 exact bodyPost_ret (v:=.tuple #[.agg (C7 N1 N2 L U M V E),.int .i64 0]) (results_cell_tmp2 Tryz.results163 _ _ _ _ _ _ _ _ rfl rfl (setRow_heap _ _ _ _ _ _ hr.out.row) Tryz.underlying112 rfl (c7_info _ _ _ _ _ _ _)) rfl ⟨rfl,below_setRow HS.out (Nat.le_refl _) _⟩
end Header
namespace Header
theorem rdec_short (s:ByteArray) (h:s.size < 16):Mak 77 #[.string s] (.tuple #[.agg Z7,.int .i64 5]):=by
 intro w
 have t1:decide ((s.size:Int) < 16) = true:=decide_eq_true (by omega)
 have HB:=lH (heap_alloc_new w (.cells Z7 82))
 unfold Z7 at HB
 go_enter Tryz.func77,Tryz.ntmps77
 go_wp2_with (refine wpList_store_row rfl 82 _ _ rfl w.heap.size (C7 0 0 ⟨#[]⟩ ⟨#[]⟩ ⟨#[]⟩ ⟨#[]⟩ ⟨#[]⟩) (by rfl) (by rfl) _ _ HB.out (rc7_info _ _ _ _ _ _ _) rfl (c7_one _ _ _ _ _ _ _) ?_)
 exact bodyPost_ret (v:=.tuple #[.agg Z7,.int .i64 5]) (results_cell_tmp2 Tryz.results77 _ _ _ _ _ _ _ _ rfl rfl (setRow_heap _ _ _ _ _ _ HB.out) Tryz.underlying82 rfl (rc7_info _ _ _ _ _ _ _)) rfl ⟨rfl,below_setRow ((Since.refl w).alloc _) (Nat.le_refl _) _⟩
set_option maxHeartbeats 8000000 in
theorem rdec_early (s P1 P2 L U M V E A Z:ByteArray) (h:Cut7 s P1 P2 L U M V E A Z) (h0:0 < s.size) (p q:Bool) (hp:((s[0].toNat:Int) != 68) = p) (hq:(Z.toList == [48,48]) = q) (hpq:(!p && q) = false):Mak 77 #[.string s] (.tuple #[.agg Z7,.int .i64 5]):=by
 intro w
 obtain ⟨h16,hm,e1,e2,e3,e4,e5,e6,e7,e8,e9⟩:=h
 have t1:decide ((s.size:Int) < 16) = false:=decide_eq_false (by omega)
 have i0:(1:Int) <= (s.size:Int):=by omega
 have i1:(5:Int) <= (s.size:Int):=by omega
 have i2:(7:Int) <= (s.size:Int):=by omega
 have i3:(8:Int) <= (s.size:Int):=by omega
 have i4:(9:Int) <= (s.size:Int):=by omega
 have i5:(11:Int) <= (s.size:Int):=by omega
 have i6:(12:Int) <= (s.size:Int):=by omega
 have i7:(14:Int) <= (s.size:Int):=by omega
 have i8:(16:Int) <= (s.size:Int):=by omega
 have HB:=lH (heap_alloc_new w (.cells Z7 82))
 unfold Z7 at HB
 cases p
 · obtain rfl:q = false:=by simpa using hpq
   clear hpq
   go_enter Tryz.func77,Tryz.ntmps77
   go_wp2_with (refine wpList_store_row rfl 82 _ _ rfl w.heap.size (C7 0 0 ⟨#[]⟩ ⟨#[]⟩ ⟨#[]⟩ ⟨#[]⟩ ⟨#[]⟩) (by rfl) (by rfl) _ _ HB.out (rc7_info _ _ _ _ _ _ _) rfl (c7_one _ _ _ _ _ _ _) ?_)
   exact bodyPost_ret (v:=.tuple #[.agg Z7,.int .i64 5]) (results_cell_tmp2 Tryz.results77 _ _ _ _ _ _ _ _ rfl rfl (setRow_heap _ _ _ _ _ _ HB.out) Tryz.underlying82 rfl (rc7_info _ _ _ _ _ _ _)) rfl ⟨rfl,below_setRow ((Since.refl w).alloc _) (Nat.le_refl _) _⟩
 · clear hpq
   go_enter Tryz.func77,Tryz.ntmps77
   go_wp2_with (refine wpList_store_row rfl 82 _ _ rfl w.heap.size (C7 0 0 ⟨#[]⟩ ⟨#[]⟩ ⟨#[]⟩ ⟨#[]⟩ ⟨#[]⟩) (by rfl) (by rfl) _ _ HB.out (rc7_info _ _ _ _ _ _ _) rfl (c7_one _ _ _ _ _ _ _) ?_)
   exact bodyPost_ret (v:=.tuple #[.agg Z7,.int .i64 5]) (results_cell_tmp2 Tryz.results77 _ _ _ _ _ _ _ _ rfl rfl (setRow_heap _ _ _ _ _ _ HB.out) Tryz.underlying82 rfl (rc7_info _ _ _ _ _ _ _)) rfl ⟨rfl,below_setRow ((Since.refl w).alloc _) (Nat.le_refl _) _⟩
set_option maxHeartbeats 8000000 in
theorem rdec_form (s P1 P2 L U M V E A Z:ByteArray) (h:Cut7 s P1 P2 L U M V E A Z) (h0:0 < s.size) (N1 N2 X:Int) (b1 b2:Bool) (hp:((s[0].toNat:Int) != 68) = false) (hq:(Z.toList == [48,48]) = true) (hX:(b1 && b2) = true -> (X == 0) = true)
   (c1:Ret 124 #[.string P1] (.tuple #[.int .i64 N1,.bool b1])) (c2:Ret 124 #[.string P2] (.tuple #[.int .i64 N2,.bool b2])) (c3:Mak 63 #[.string L] (.int .i64 X)):Mak 77 #[.string s] (.tuple #[.agg Z7,.int .i64 5]):=by
 intro w
 obtain ⟨h16,hm,e1,e2,e3,e4,e5,e6,e7,e8,e9⟩:=h
 have t1:decide ((s.size:Int) < 16) = false:=decide_eq_false (by omega)
 have i0:(1:Int) <= (s.size:Int):=by omega
 have i1:(5:Int) <= (s.size:Int):=by omega
 have i2:(7:Int) <= (s.size:Int):=by omega
 have i3:(8:Int) <= (s.size:Int):=by omega
 have i4:(9:Int) <= (s.size:Int):=by omega
 have i5:(11:Int) <= (s.size:Int):=by omega
 have i6:(12:Int) <= (s.size:Int):=by omega
 have i7:(14:Int) <= (s.size:Int):=by omega
 have i8:(16:Int) <= (s.size:Int):=by omega
 cases b1
 · clear hX
   go_enter Tryz.func77,Tryz.ntmps77
   go_wp2_with fail
   repeat ((first | with_reducible refine c1.calls ?_ | with_reducible refine c2.calls ?_); try go_wp2_with fail)
   go_region
   obtain ⟨W2,hW2⟩:∃ W2,W2 = ((w.alloc (.cells Z7 82)).alloc (.cells (C7 N1 N2 L U M V E) 82)).drew:=⟨_,rfl⟩
   have hw1:(w.alloc (.cells Z7 82)).heap.size = w.heap.size + 1:=by simp
   have hs1:Since w (w.alloc (.cells Z7 82)):=(Since.refl w).alloc _
   have hd1:Below ((w.alloc (.cells Z7 82)).alloc (.cells (C7 N1 N2 L U M V E) 82)).heap.size ((w.alloc (.cells Z7 82)).alloc (.cells (C7 N1 N2 L U M V E) 82)) ((w.alloc (.cells Z7 82)).alloc (.cells (C7 N1 N2 L U M V E) 82)).drew:=Below.drew (Below.refl _ _)
   have hb:=(hb_new (w.alloc (.cells Z7 82)) (KT) (Kp.keep trivial hs1) (C7 N1 N2 L U M V E) 82).step hd1
   rw [hw1,<- hW2] at hb
   have hp:Hid (HB w (KT) (w.heap.size + 1) (C7 N1 N2 L U M V E) W2):=lH ⟨hs1.step hb.since,hb.tabs,hb.cell,hb.lg⟩
   have hr:Hid (HR w w.heap.size Z7 82 W2):=lH (by rw [hW2]; exact (hr_old ⟨heap_alloc_new w _⟩ _).step hd1)
   have hW3:=hW2
   unfold Z7 C7 at hW3
   rw [<- hW3]
   clear hW3 hW2 hb hd1 hs1 hw1
   obtain ⟨_,m0,m1,m2,m3,m4,m5,m6⟩:=hb7 hp
   have hg:=hp.out.lg
   have HS:=lH hp.out.since
   have HT:=lH hp.out.tabs
   go_wp2_with (refine wpList_store_row rfl 82 _ _ rfl w.heap.size (C7 0 0 ⟨#[]⟩ ⟨#[]⟩ ⟨#[]⟩ ⟨#[]⟩ ⟨#[]⟩) (by rfl) (by rfl) _ _ hr.out.row (rc7_info _ _ _ _ _ _ _) rfl (c7_one _ _ _ _ _ _ _) ?_)
   exact bodyPost_ret (v:=.tuple #[.agg Z7,.int .i64 5]) (results_cell_tmp2 Tryz.results77 _ _ _ _ _ _ _ _ rfl rfl (setRow_heap _ _ _ _ _ _ hr.out.row) Tryz.underlying82 rfl (rc7_info _ _ _ _ _ _ _)) rfl ⟨rfl,below_setRow HS.out (Nat.le_refl _) _⟩
 · cases b2
   · clear hX
     go_enter Tryz.func77,Tryz.ntmps77
     go_wp2_with fail
     repeat ((first | with_reducible refine c1.calls ?_ | with_reducible refine c2.calls ?_); try go_wp2_with fail)
     go_region
     obtain ⟨W2,hW2⟩:∃ W2,W2 = ((w.alloc (.cells Z7 82)).alloc (.cells (C7 N1 N2 L U M V E) 82)).drew:=⟨_,rfl⟩
     have hw1:(w.alloc (.cells Z7 82)).heap.size = w.heap.size + 1:=by simp
     have hs1:Since w (w.alloc (.cells Z7 82)):=(Since.refl w).alloc _
     have hd1:Below ((w.alloc (.cells Z7 82)).alloc (.cells (C7 N1 N2 L U M V E) 82)).heap.size ((w.alloc (.cells Z7 82)).alloc (.cells (C7 N1 N2 L U M V E) 82)) ((w.alloc (.cells Z7 82)).alloc (.cells (C7 N1 N2 L U M V E) 82)).drew:=Below.drew (Below.refl _ _)
     have hb:=(hb_new (w.alloc (.cells Z7 82)) (KT) (Kp.keep trivial hs1) (C7 N1 N2 L U M V E) 82).step hd1
     rw [hw1,<- hW2] at hb
     have hp:Hid (HB w (KT) (w.heap.size + 1) (C7 N1 N2 L U M V E) W2):=lH ⟨hs1.step hb.since,hb.tabs,hb.cell,hb.lg⟩
     have hr:Hid (HR w w.heap.size Z7 82 W2):=lH (by rw [hW2]; exact (hr_old ⟨heap_alloc_new w _⟩ _).step hd1)
     have hW3:=hW2
     unfold Z7 C7 at hW3
     rw [<- hW3]
     clear hW3 hW2 hb hd1 hs1 hw1
     obtain ⟨_,m0,m1,m2,m3,m4,m5,m6⟩:=hb7 hp
     have hg:=hp.out.lg
     have HS:=lH hp.out.since
     have HT:=lH hp.out.tabs
     go_wp2_with (refine wpList_store_row rfl 82 _ _ rfl w.heap.size (C7 0 0 ⟨#[]⟩ ⟨#[]⟩ ⟨#[]⟩ ⟨#[]⟩ ⟨#[]⟩) (by rfl) (by rfl) _ _ hr.out.row (rc7_info _ _ _ _ _ _ _) rfl (c7_one _ _ _ _ _ _ _) ?_)
     exact bodyPost_ret (v:=.tuple #[.agg Z7,.int .i64 5]) (results_cell_tmp2 Tryz.results77 _ _ _ _ _ _ _ _ rfl rfl (setRow_heap _ _ _ _ _ _ hr.out.row) Tryz.underlying82 rfl (rc7_info _ _ _ _ _ _ _)) rfl ⟨rfl,below_setRow HS.out (Nat.le_refl _) _⟩
   · have hX2:=hX rfl
     clear hX
     go_enter Tryz.func77,Tryz.ntmps77
     go_wp2_with fail
     repeat ((first | with_reducible refine c1.calls ?_ | with_reducible refine c2.calls ?_); try go_wp2_with fail)
     go_region
     obtain ⟨W2,hW2⟩:∃ W2,W2 = ((w.alloc (.cells Z7 82)).alloc (.cells (C7 N1 N2 L U M V E) 82)).drew:=⟨_,rfl⟩
     have hw1:(w.alloc (.cells Z7 82)).heap.size = w.heap.size + 1:=by simp
     have hs1:Since w (w.alloc (.cells Z7 82)):=(Since.refl w).alloc _
     have hd1:Below ((w.alloc (.cells Z7 82)).alloc (.cells (C7 N1 N2 L U M V E) 82)).heap.size ((w.alloc (.cells Z7 82)).alloc (.cells (C7 N1 N2 L U M V E) 82)) ((w.alloc (.cells Z7 82)).alloc (.cells (C7 N1 N2 L U M V E) 82)).drew:=Below.drew (Below.refl _ _)
     have hb:=(hb_new (w.alloc (.cells Z7 82)) (KT) (Kp.keep trivial hs1) (C7 N1 N2 L U M V E) 82).step hd1
     rw [hw1,<- hW2] at hb
     have hp:Hid (HB w (KT) (w.heap.size + 1) (C7 N1 N2 L U M V E) W2):=lH ⟨hs1.step hb.since,hb.tabs,hb.cell,hb.lg⟩
     have hr:Hid (HR w w.heap.size Z7 82 W2):=lH (by rw [hW2]; exact (hr_old ⟨heap_alloc_new w _⟩ _).step hd1)
     have hW3:=hW2
     unfold Z7 C7 at hW3
     rw [<- hW3]
     clear hW3 hW2 hb hd1 hs1 hw1
     obtain ⟨_,m0,m1,m2,m3,m4,m5,m6⟩:=hb7 hp
     have hg:=hp.out.lg
     have HS:=lH hp.out.since
     have HT:=lH hp.out.tabs
     go_wp2_with fail
     refine c3.calls0 ?_
     intro wz hz
     replace hp:=lH (hp.out.step hz)
     replace hr:=lH (hr.out.step hz)
     replace m0:=(Below.cell hz (by exact hg)).trans m0
     replace m1:=(Below.cell hz (by exact hg)).trans m1
     replace m2:=(Below.cell hz (by exact hg)).trans m2
     replace m3:=(Below.cell hz (by exact hg)).trans m3
     replace m4:=(Below.cell hz (by exact hg)).trans m4
     replace m5:=(Below.cell hz (by exact hg)).trans m5
     replace m6:=(Below.cell hz (by exact hg)).trans m6
     replace hg:=Nat.lt_of_lt_of_le hg (Below.size hz)
     replace HS:=lH (HS.out.step hz)
     clear hz
     go_wp2_with (refine wpList_store_row rfl 82 _ _ rfl w.heap.size (C7 0 0 ⟨#[]⟩ ⟨#[]⟩ ⟨#[]⟩ ⟨#[]⟩ ⟨#[]⟩) (by rfl) (by rfl) _ _ hr.out.row (rc7_info _ _ _ _ _ _ _) rfl (c7_one _ _ _ _ _ _ _) ?_)
     exact bodyPost_ret (v:=.tuple #[.agg Z7,.int .i64 5]) (results_cell_tmp2 Tryz.results77 _ _ _ _ _ _ _ _ rfl rfl (setRow_heap _ _ _ _ _ _ hr.out.row) Tryz.underlying82 rfl (rc7_info _ _ _ _ _ _ _)) rfl ⟨rfl,below_setRow HS.out (Nat.le_refl _) _⟩
set_option maxHeartbeats 8000000 in
theorem rdec_chk (s P1 P2 L U M V E A Z:ByteArray) (h:Cut7 s P1 P2 L U M V E A Z) (h0:0 < s.size) (N1 N2 X:Int) (hp:((s[0].toNat:Int) != 68) = false) (hq:(Z.toList == [48,48]) = true) (hX:(X == 0) = false)
   (c1:Ret 124 #[.string P1] (.tuple #[.int .i64 N1,.bool true])) (c2:Ret 124 #[.string P2] (.tuple #[.int .i64 N2,.bool true])) (c3:Mak 63 #[.string L] (.int .i64 X))
   (c4:Mak 16 #[.agg #[.string U,.string M,.string V,.string E],.string L] (.int .i64 12)):Mak 77 #[.string s] (.tuple #[.agg Z7,.int .i64 12]):=by
 intro w
 obtain ⟨h16,hm,e1,e2,e3,e4,e5,e6,e7,e8,e9⟩:=h
 have t1:decide ((s.size:Int) < 16) = false:=decide_eq_false (by omega)
 have i0:(1:Int) <= (s.size:Int):=by omega
 have i1:(5:Int) <= (s.size:Int):=by omega
 have i2:(7:Int) <= (s.size:Int):=by omega
 have i3:(8:Int) <= (s.size:Int):=by omega
 have i4:(9:Int) <= (s.size:Int):=by omega
 have i5:(11:Int) <= (s.size:Int):=by omega
 have i6:(12:Int) <= (s.size:Int):=by omega
 have i7:(14:Int) <= (s.size:Int):=by omega
 have i8:(16:Int) <= (s.size:Int):=by omega
 go_enter Tryz.func77,Tryz.ntmps77
 go_wp2_with fail
 repeat ((first | with_reducible refine c1.calls ?_ | with_reducible refine c2.calls ?_); try go_wp2_with fail)
 go_region
 obtain ⟨W2,hW2⟩:∃ W2,W2 = ((w.alloc (.cells Z7 82)).alloc (.cells (C7 N1 N2 L U M V E) 82)).drew:=⟨_,rfl⟩
 have hw1:(w.alloc (.cells Z7 82)).heap.size = w.heap.size + 1:=by simp
 have hs1:Since w (w.alloc (.cells Z7 82)):=(Since.refl w).alloc _
 have hd1:Below ((w.alloc (.cells Z7 82)).alloc (.cells (C7 N1 N2 L U M V E) 82)).heap.size ((w.alloc (.cells Z7 82)).alloc (.cells (C7 N1 N2 L U M V E) 82)) ((w.alloc (.cells Z7 82)).alloc (.cells (C7 N1 N2 L U M V E) 82)).drew:=Below.drew (Below.refl _ _)
 have hb:=(hb_new (w.alloc (.cells Z7 82)) (KT) (Kp.keep trivial hs1) (C7 N1 N2 L U M V E) 82).step hd1
 rw [hw1,<- hW2] at hb
 have hp:Hid (HB w (KT) (w.heap.size + 1) (C7 N1 N2 L U M V E) W2):=lH ⟨hs1.step hb.since,hb.tabs,hb.cell,hb.lg⟩
 have hr:Hid (HR w w.heap.size Z7 82 W2):=lH (by rw [hW2]; exact (hr_old ⟨heap_alloc_new w _⟩ _).step hd1)
 have hW3:=hW2
 unfold Z7 C7 at hW3
 rw [<- hW3]
 clear hW3 hW2 hb hd1 hs1 hw1
 obtain ⟨_,m0,m1,m2,m3,m4,m5,m6⟩:=hb7 hp
 have hg:=hp.out.lg
 have HS:=lH hp.out.since
 have HT:=lH hp.out.tabs
 go_wp2_with fail
 refine c3.calls0 ?_
 intro wz hz
 replace hp:=lH (hp.out.step hz)
 replace hr:=lH (hr.out.step hz)
 replace m0:=(Below.cell hz (by exact hg)).trans m0
 replace m1:=(Below.cell hz (by exact hg)).trans m1
 replace m2:=(Below.cell hz (by exact hg)).trans m2
 replace m3:=(Below.cell hz (by exact hg)).trans m3
 replace m4:=(Below.cell hz (by exact hg)).trans m4
 replace m5:=(Below.cell hz (by exact hg)).trans m5
 replace m6:=(Below.cell hz (by exact hg)).trans m6
 replace hg:=Nat.lt_of_lt_of_le hg (Below.size hz)
 replace HS:=lH (HS.out.step hz)
 clear hz
 go_wp2_with fail
 refine c4.calls0 ?_
 intro wz hz
 replace hp:=lH (hp.out.step hz)
 replace hr:=lH (hr.out.step hz)
 replace m0:=(Below.cell hz (by exact hg)).trans m0
 replace m1:=(Below.cell hz (by exact hg)).trans m1
 replace m2:=(Below.cell hz (by exact hg)).trans m2
 replace m3:=(Below.cell hz (by exact hg)).trans m3
 replace m4:=(Below.cell hz (by exact hg)).trans m4
 replace m5:=(Below.cell hz (by exact hg)).trans m5
 replace m6:=(Below.cell hz (by exact hg)).trans m6
 replace hg:=Nat.lt_of_lt_of_le hg (Below.size hz)
 replace HS:=lH (HS.out.step hz)
 clear hz
 go_wp2_with (refine wpList_store_row rfl 82 _ _ rfl w.heap.size (C7 0 0 ⟨#[]⟩ ⟨#[]⟩ ⟨#[]⟩ ⟨#[]⟩ ⟨#[]⟩) (by rfl) (by rfl) _ _ hr.out.row (rc7_info _ _ _ _ _ _ _) rfl (c7_one _ _ _ _ _ _ _) ?_)
 exact bodyPost_ret (v:=.tuple #[.agg Z7,.int .i64 12]) (results_cell_tmp2 Tryz.results77 _ _ _ _ _ _ _ _ rfl rfl (setRow_heap _ _ _ _ _ _ hr.out.row) Tryz.underlying82 rfl (rc7_info _ _ _ _ _ _ _)) rfl ⟨rfl,below_setRow HS.out (Nat.le_refl _) _⟩
set_option maxHeartbeats 8000000 in
theorem rdec_ok (s P1 P2 L U M V E A Z:ByteArray) (h:Cut7 s P1 P2 L U M V E A Z) (h0:0 < s.size) (N1 N2 X:Int) (hp:((s[0].toNat:Int) != 68) = false) (hq:(Z.toList == [48,48]) = true) (hX:(X == 0) = false)
   (c1:Ret 124 #[.string P1] (.tuple #[.int .i64 N1,.bool true])) (c2:Ret 124 #[.string P2] (.tuple #[.int .i64 N2,.bool true])) (c3:Mak 63 #[.string L] (.int .i64 X))
   (c4:Mak 16 #[.agg #[.string U,.string M,.string V,.string E],.string L] (.int .i64 0)):Mak 77 #[.string s] (.tuple #[.agg (C7 N1 N2 L U M V E),.int .i64 0]):=by
 intro w
 obtain ⟨h16,hm,e1,e2,e3,e4,e5,e6,e7,e8,e9⟩:=h
 have t1:decide ((s.size:Int) < 16) = false:=decide_eq_false (by omega)
 have i0:(1:Int) <= (s.size:Int):=by omega
 have i1:(5:Int) <= (s.size:Int):=by omega
 have i2:(7:Int) <= (s.size:Int):=by omega
 have i3:(8:Int) <= (s.size:Int):=by omega
 have i4:(9:Int) <= (s.size:Int):=by omega
 have i5:(11:Int) <= (s.size:Int):=by omega
 have i6:(12:Int) <= (s.size:Int):=by omega
 have i7:(14:Int) <= (s.size:Int):=by omega
 have i8:(16:Int) <= (s.size:Int):=by omega
 go_enter Tryz.func77,Tryz.ntmps77
 go_wp2_with fail
 repeat ((first | with_reducible refine c1.calls ?_ | with_reducible refine c2.calls ?_); try go_wp2_with fail)
 go_region
 obtain ⟨W2,hW2⟩:∃ W2,W2 = ((w.alloc (.cells Z7 82)).alloc (.cells (C7 N1 N2 L U M V E) 82)).drew:=⟨_,rfl⟩
 have hw1:(w.alloc (.cells Z7 82)).heap.size = w.heap.size + 1:=by simp
 have hs1:Since w (w.alloc (.cells Z7 82)):=(Since.refl w).alloc _
 have hd1:Below ((w.alloc (.cells Z7 82)).alloc (.cells (C7 N1 N2 L U M V E) 82)).heap.size ((w.alloc (.cells Z7 82)).alloc (.cells (C7 N1 N2 L U M V E) 82)) ((w.alloc (.cells Z7 82)).alloc (.cells (C7 N1 N2 L U M V E) 82)).drew:=Below.drew (Below.refl _ _)
 have hb:=(hb_new (w.alloc (.cells Z7 82)) (KT) (Kp.keep trivial hs1) (C7 N1 N2 L U M V E) 82).step hd1
 rw [hw1,<- hW2] at hb
 have hp:Hid (HB w (KT) (w.heap.size + 1) (C7 N1 N2 L U M V E) W2):=lH ⟨hs1.step hb.since,hb.tabs,hb.cell,hb.lg⟩
 have hr:Hid (HR w w.heap.size Z7 82 W2):=lH (by rw [hW2]; exact (hr_old ⟨heap_alloc_new w _⟩ _).step hd1)
 have hW3:=hW2
 unfold Z7 C7 at hW3
 rw [<- hW3]
 clear hW3 hW2 hb hd1 hs1 hw1
 obtain ⟨_,m0,m1,m2,m3,m4,m5,m6⟩:=hb7 hp
 have hg:=hp.out.lg
 have HS:=lH hp.out.since
 have HT:=lH hp.out.tabs
 go_wp2_with fail
 refine c3.calls0 ?_
 intro wz hz
 replace hp:=lH (hp.out.step hz)
 replace hr:=lH (hr.out.step hz)
 replace m0:=(Below.cell hz (by exact hg)).trans m0
 replace m1:=(Below.cell hz (by exact hg)).trans m1
 replace m2:=(Below.cell hz (by exact hg)).trans m2
 replace m3:=(Below.cell hz (by exact hg)).trans m3
 replace m4:=(Below.cell hz (by exact hg)).trans m4
 replace m5:=(Below.cell hz (by exact hg)).trans m5
 replace m6:=(Below.cell hz (by exact hg)).trans m6
 replace hg:=Nat.lt_of_lt_of_le hg (Below.size hz)
 replace HS:=lH (HS.out.step hz)
 clear hz
 go_wp2_with fail
 refine c4.calls0 ?_
 intro wz hz
 replace hp:=lH (hp.out.step hz)
 replace hr:=lH (hr.out.step hz)
 replace m0:=(Below.cell hz (by exact hg)).trans m0
 replace m1:=(Below.cell hz (by exact hg)).trans m1
 replace m2:=(Below.cell hz (by exact hg)).trans m2
 replace m3:=(Below.cell hz (by exact hg)).trans m3
 replace m4:=(Below.cell hz (by exact hg)).trans m4
 replace m5:=(Below.cell hz (by exact hg)).trans m5
 replace m6:=(Below.cell hz (by exact hg)).trans m6
 replace hg:=Nat.lt_of_lt_of_le hg (Below.size hz)
 replace HS:=lH (HS.out.step hz)
 clear hz
 go_wp2_with (refine wpList_store_row rfl 82 _ _ rfl w.heap.size (C7 N1 N2 L U M V E) (by rfl) (by rfl) _ _ hr.out.row (rc7_info _ _ _ _ _ _ _) rfl (c7_one _ _ _ _ _ _ _) ?_)
 exact bodyPost_ret (v:=.tuple #[.agg (C7 N1 N2 L U M V E),.int .i64 0]) (results_cell_tmp2 Tryz.results77 _ _ _ _ _ _ _ _ rfl rfl (setRow_heap _ _ _ _ _ _ hr.out.row) Tryz.underlying82 rfl (rc7_info _ _ _ _ _ _ _)) rfl ⟨rfl,below_setRow HS.out (Nat.le_refl _) _⟩
end Header
namespace Header
theorem numD_inj:∀ (n:Nat) (l m:List UInt8),l.length = n -> m.length = n -> l.all Dig.isD = true -> m.all Dig.isD = true -> Dig.numD l = Dig.numD m -> l = m:=by
 intro n
 induction n with
 | zero =>
   intro l m hl hm _ _ _
   rw [List.eq_nil_of_length_eq_zero hl,List.eq_nil_of_length_eq_zero hm]
 | succ n ih =>
   intro l m hl hm al am h
   have hl0:l ≠ []:=fun h => by rw [h] at hl; cases hl
   have hm0:m ≠ []:=fun h => by rw [h] at hm; cases hm
   obtain ⟨a,x,ha⟩:∃ a x,l = a ++ [x]:=⟨_,_,(List.dropLast_concat_getLast hl0).symm⟩
   obtain ⟨b,y,hb⟩:∃ b y,m = b ++ [y]:=⟨_,_,(List.dropLast_concat_getLast hm0).symm⟩
   subst ha hb
   rw [Dig.numD_snoc,Dig.numD_snoc] at h
   rw [List.all_append,Bool.and_eq_true] at al am
   have d1:Dig.isD x = true:=by simpa using al.2
   have d2:Dig.isD y = true:=by simpa using am.2
   unfold Dig.isD at d1 d2
   simp only [Bool.and_eq_true,decide_eq_true_eq] at d1 d2
   have e1:x.toNat = y.toNat:=by omega
   have e2:Dig.numD a = Dig.numD b:=by omega
   rw [List.length_append,List.length_singleton] at hl hm
   rw [ih a b (by omega) (by omega) al.1 am.1 e2,UInt8.toNat_inj.1 e1]
theorem decS_list (W n:Nat):(decS W n).data.toList = (List.range W).map fun i => UInt8.ofNat (Dig.dg n (W - 1 - i)).toNat:=by
 unfold decS
 rw [nums_list,List.map_map]; rfl
theorem decS_back (W:Nat) (s:ByteArray) (hs:s.size = W) (h:s.data.toList.all Dig.isD = true):decS W (Dig.numD s.data.toList) = s:=by
 apply ba_ext
 rw [decS_list]
 have hl:s.data.toList.length = W:=hs
 have hlt:=Dig.numD_lt s.data.toList W h (by omega)
 exact numD_inj W _ _ (by simp) hl (Dig.isD_dec W _) h (by rw [Dig.numD_dec,Nat.mod_eq_of_lt hlt])
theorem undec_ret (t:ByteArray) (h1:1 <= t.size) (hs:t.size <= 18):Ret 198 #[.string t] (.tuple #[.int .i64 (if t.data.toList.all Dig.isD = true then (Dig.numD t.data.toList:Int) else 0),.bool (t.data.toList.all Dig.isD)]):=fun w => Dig.undec_in t w h1 hs _ _ rfl rfl
theorem rundec_ret (t:ByteArray) (h1:1 <= t.size) (hs:t.size <= 18):Ret 124 #[.string t] (.tuple #[.int .i64 (if t.data.toList.all Dig.isD = true then (Dig.numD t.data.toList:Int) else 0),.bool (t.data.toList.all Dig.isD)]):=RefDig.undec_in t h1 hs _ _ rfl rfl
def Form (s:ByteArray):Prop:=16 <= s.size /\ (s.extract 0 1).toList = [68] /\ (s.extract 1 5).data.toList.all Dig.isD = true /\ (s.extract 12 14).data.toList.all Dig.isD = true /\ (s.extract 14 16).toList = [48,48] /\ Kind.mostN (s.extract 7 8).data.toList ≠ 0
instance (s:ByteArray):Decidable (Form s):=by unfold Form; infer_instance
def okS (s:ByteArray):Bool:=Table.okB (s.extract 5 7).data.toList (s.extract 8 9).data.toList (s.extract 9 11).data.toList (s.extract 11 12).data.toList (s.extract 7 8).data.toList
def decE (s:ByteArray):Int:=if Form s then (if okS s then 0 else 12) else 5
def decV (s:ByteArray):Array Value:=if Form s /\ okS s = true then C7 (Dig.numD (s.extract 1 5).data.toList:Int) (Dig.numD (s.extract 12 14).data.toList:Int) (s.extract 7 8) (s.extract 5 7) (s.extract 8 9) (s.extract 9 11) (s.extract 11 12) else Z7
theorem cut7 (s:ByteArray) (h:16 <= s.size) (hm:s.size <= 1000000):Cut7 s (s.extract 1 5) (s.extract 12 14) (s.extract 7 8) (s.extract 5 7) (s.extract 8 9) (s.extract 9 11) (s.extract 11 12) (s.extract 0 1) (s.extract 14 16):=⟨h,hm,rfl,rfl,rfl,rfl,rfl,rfl,rfl,rfl,rfl⟩
theorem ext0 (s:ByteArray) (h:0 < s.size):(s.extract 0 1).toList = [s[0]]:=by
 rw [toList_d,ext_list,Nat.sub_zero,List.drop_zero]
 have h2:0 < s.data.toList.length:=h
 obtain ⟨c,l,hc⟩:∃ c l,s.data.toList = c :: l:=by
   cases hx:s.data.toList with
   | nil => rw [hx] at h2; simp at h2
   | cons c l => exact ⟨c,l,rfl⟩
 have h3:s[0] = c:=by
   have:s.data.toList[0]'h2 = s[0]:=rfl
   rw [<- this]
   simp [hc]
 rw [hc,h3]; rfl
theorem dec_any (s:ByteArray) (hm:s.size <= 1000000):KMk KH 163 #[.string s] (.tuple #[.agg (decV s),.int .i64 (decE s)]):=by
 unfold decV decE
 by_cases h16:16 <= s.size
 · have hc:=cut7 s h16 hm
   have c1:=undec_ret (s.extract 1 5) (by rw [ByteArray.size_extract]; omega) (by rw [ByteArray.size_extract]; omega)
   have c2:=undec_ret (s.extract 12 14) (by rw [ByteArray.size_extract]; omega) (by rw [ByteArray.size_extract]; omega)
   have c3:=most_h (s.extract 7 8) _ rfl
   by_cases hf:Form s
   · rw [if_pos hf]
     have hf2:=hf
     obtain ⟨_,f1,f2,f3,f4,f5⟩:=hf2
     rw [f2,if_pos rfl] at c1
     rw [f3,if_pos rfl] at c2
     have hX:(Kind.mostN (s.extract 7 8).data.toList == 0) = false:=by rw [beq_eq_false_iff_ne]; exact f5
     by_cases hk:okS s = true
     · rw [if_pos ⟨hf,hk⟩,if_pos hk]
       exact dec_ok s _ _ _ _ _ _ _ _ _ hc _ _ _ (by rw [beq_iff_eq]; exact f1) (by rw [beq_iff_eq]; exact f4) hX c1 c2 c3 (check_h _ _ _ _ _ 0 (by unfold okS at hk; rw [if_pos hk]))
     · rw [if_neg (fun h => hk h.2),if_neg hk]
       exact dec_chk s _ _ _ _ _ _ _ _ _ hc _ _ _ (by rw [beq_iff_eq]; exact f1) (by rw [beq_iff_eq]; exact f4) hX c1 c2 c3 (check_h _ _ _ _ _ 12 (by unfold okS at hk; rw [if_neg hk]))
   · rw [if_neg hf,if_neg (fun h => hf h.1)]
     refine dec_form s _ _ _ _ _ _ _ _ _ hc _ _ _ _ _ _ _ rfl rfl (fun h => ?_) c1 c2 c3
     simp only [Bool.and_eq_true,beq_iff_eq] at h ⊢
     apply Classical.byContradiction
     intro h0
     exact hf ⟨h16,h.1.1.1,h.1.1.2,h.1.2,h.2,h0⟩
 · have hf:¬ Form s:=fun h => h16 h.1
   rw [if_neg hf,if_neg (fun h => hf h.1)]
   exact (dec_short s (by omega)).k
theorem rdec_any (s:ByteArray) (hm:s.size <= 1000000):Mak 77 #[.string s] (.tuple #[.agg (decV s),.int .i64 (decE s)]):=by
 unfold decV decE
 by_cases h16:16 <= s.size
 · have hc:=cut7 s h16 hm
   have h0:0 < s.size:=by omega
   have c1:=rundec_ret (s.extract 1 5) (by rw [ByteArray.size_extract]; omega) (by rw [ByteArray.size_extract]; omega)
   have c2:=rundec_ret (s.extract 12 14) (by rw [ByteArray.size_extract]; omega) (by rw [ByteArray.size_extract]; omega)
   have c3:Mak 63 #[.string (s.extract 7 8)] _:=(Kind.rmost_ret (s.extract 7 8) _ rfl).mak
   have hs0:((s[0].toNat:Int) != 68) = !((s.extract 0 1).toList == [68]):=by
     rw [ext0 s h0,Bool.eq_iff_iff,bne_iff_ne,Bool.not_eq_true',beq_eq_false_iff_ne]
     refine not_congr ⟨fun h => by rw [UInt8.toNat_inj.1 (show s[0].toNat = (68:UInt8).toNat by show s[0].toNat = 68; omega)],fun h => by simp at h; rw [h]; rfl⟩
   by_cases hf:Form s
   · rw [if_pos hf]
     have hf2:=hf
     obtain ⟨_,f1,f2,f3,f4,f5⟩:=hf2
     rw [f2,if_pos rfl] at c1
     rw [f3,if_pos rfl] at c2
     have hX:(Kind.mostN (s.extract 7 8).data.toList == 0) = false:=by rw [beq_eq_false_iff_ne]; exact f5
     have hs1:((s[0].toNat:Int) != 68) = false:=by rw [hs0,f1]; rfl
     by_cases hk:okS s = true
     · rw [if_pos ⟨hf,hk⟩,if_pos hk]
       exact rdec_ok s _ _ _ _ _ _ _ _ _ hc h0 _ _ _ hs1 (by rw [beq_iff_eq]; exact f4) hX c1 c2 c3 (Table.rcheck_mak _ _ _ _ _ 0 (by unfold okS at hk; rw [if_pos hk]))
     · rw [if_neg (fun h => hk h.2),if_neg hk]
       exact rdec_chk s _ _ _ _ _ _ _ _ _ hc h0 _ _ _ hs1 (by rw [beq_iff_eq]; exact f4) hX c1 c2 c3 (Table.rcheck_mak _ _ _ _ _ 12 (by unfold okS at hk; rw [if_neg hk]))
   · rw [if_neg hf,if_neg (fun h => hf h.1)]
     by_cases hpq:(!((s[0].toNat:Int) != 68) && (s.extract 14 16).toList == [48,48]) = false
     · exact rdec_early s _ _ _ _ _ _ _ _ _ hc h0 _ _ rfl rfl hpq
     · simp only [Bool.not_eq_false,Bool.and_eq_true,Bool.not_eq_true',bne_eq_false_iff_eq,beq_iff_eq] at hpq
       have hs1:((s[0].toNat:Int) != 68) = false:=by rw [bne_eq_false_iff_eq]; exact hpq.1
       have f1:(s.extract 0 1).toList = [68]:=by
         rw [hs1] at hs0
         have:=hs0.symm
         simpa using this
       refine rdec_form s _ _ _ _ _ _ _ _ _ hc h0 _ _ _ _ _ hs1 (by rw [beq_iff_eq]; exact hpq.2) (fun h => ?_) c1 c2 c3
       simp only [Bool.and_eq_true,beq_iff_eq] at h ⊢
       apply Classical.byContradiction
       intro h0
       exact hf ⟨h16,f1,h.1,h.2,hpq.2,h0⟩
 · have hf:¬ Form s:=fun h => h16 h.1
   rw [if_neg hf,if_neg (fun h => hf h.1)]
   exact rdec_short s (by omega)
end Header
namespace Opt
theorem hb2 {w:World} {K:World -> Prop} {g:Nat} {a b:Value} {W:World} (h:Hid (HB w K g #[a,b] W)):Hid (HB w K g #[a,b] W) /\ W.cell? ⟨g,0,none⟩ = some a /\ W.cell? ⟨g,1,none⟩ = some b :=
 ⟨h,h.out.cell 0 _ rfl,h.out.cell 1 _ rfl⟩
theorem hbal {w:World} {K:World -> Prop} [Kp K] {g:Nat} {C:Array Value} {W:World} {o:Obj} (h:Hid (HB w K g C W)):Hid (HB w K g C (W.alloc o)):=hbstep ((Below.refl _ _).alloc (Nat.le_refl _) _) h
theorem idc_ret (c:Nat) (hc:c < 256) (q:Bool) (hq:q = idN c):Ret 203 #[.int .u8 (c:Int)] (.bool q):=by
 intro w
 have hq2:Hid (q = idN c):=lH hq
 clear hq
 have h1:(65:Int) <= (c:Int) ∨ (c:Int) < 65:=by omega
 have h2:(c:Int) <= 90 ∨ 90 < (c:Int):=by omega
 have h3:(48:Int) <= (c:Int) ∨ (c:Int) < 48:=by omega
 have h4:(c:Int) <= 57 ∨ 57 < (c:Int):=by omega
 rcases h1 with h1 | h1 <;> rcases h2 with h2 | h2 <;> rcases h3 with h3 | h3 <;> rcases h4 with h4 | h4 <;> first | (exfalso; omega) | skip
 all_goals
   go_enter Tryz.func203,Tryz.ntmps203
   go_wp2_with fail
   go_ret
   refine ⟨?_,rfl⟩
   have hq3:=hq2.out
   unfold idN at hq3
   rw [hq3]
   refine congrArg Ending.returned (congrArg Value.bool ?_)
   rw [Bool.eq_iff_iff]
   simp
   omega
theorem datac_ret (c:Nat) (hc:c < 256) (q:Bool) (hq:q = dataN c):Ret 204 #[.int .u8 (c:Int)] (.bool q):=by
 intro w
 have hq2:Hid (q = dataN c):=lH hq
 clear hq
 have h1:(32:Int) <= (c:Int) ∨ (c:Int) < 32:=by omega
 have h2:(c:Int) <= 126 ∨ 126 < (c:Int):=by omega
 rcases h1 with h1 | h1 <;> rcases h2 with h2 | h2 <;> first | (exfalso; omega) | skip
 all_goals
   go_enter Tryz.func204,Tryz.ntmps204
   go_wp2_with fail
   go_ret
   refine ⟨?_,rfl⟩
   have hq3:=hq2.out
   unfold dataN at hq3
   rw [hq3]
   refine congrArg Ending.returned (congrArg Value.bool ?_)
   rw [Bool.eq_iff_iff]
   simp
   omega
theorem all_id (p:Nat -> Bool) (hp:∀ (c:Nat) (q:Bool),c < 256 -> q = p c -> Ret 203 #[.int .u8 (c:Int)] (.bool q)) (s:ByteArray) (hm:s.size <= 140737488355328) (v:Bool) (hv:v = allB p s.data.toList):Ret 205 #[.string s,.func (.func 203) #[] #[]] (.bool v):=by
 intro w
 have HV:=lH hv
 have HP:=lH hp
 clear hv hp
 go_enter Tryz.func205,Tryz.ntmps205
 go_wp2_with fail
 go_loop [8,5] (fun i _ => ∃ k:Nat,k <= s.size /\ i = .int .i64 (k:Int) /\ Hid (allB p (s.data.toList.take k) = true)) (fun i _ => s.size - (intOf i).toNat)
 case atStart => exact ⟨0,by omega,rfl,lH rfl⟩
 case round =>
   obtain ⟨k,hk,rfl,HA⟩:=hrel
   by_cases hlt:k < s.size
   · obtain ⟨q,hq⟩:∃ q,q = p s[k].toNat:=⟨_,rfl⟩
     have c1:=HP.out s[k].toNat q s[k].toNat_lt hq
     have hts:s.data.toList.take (k + 1) = s.data.toList.take k ++ [s[k]]:=by
       rw [List.take_succ_eq_append_getElem (show k < s.data.toList.length from hlt)]; rfl
     have HA2:Hid (allB p (s.data.toList.take (k + 1)) = q):=lH (by rw [hts,allB_snoc,HA.out,<- hq]; rfl)
     clear hts hq
     cases q
     · go_wp2_with fail
       refine c1.calls ?_
       go_wp2_with fail
       go_ret
       have hf:v = false:=by
         rw [HV.out]
         cases h:allB p s.data.toList with
         | false => rfl
         | true =>
           have h9:=HA2.out
           unfold allB at h h9
           rw [List.all_eq_false] at h9
           obtain ⟨x,hx,hx2⟩:=h9
           exact absurd (List.all_eq_true.1 h x (List.mem_of_mem_take hx)) hx2
       rw [hf]; exact ⟨rfl,rfl⟩
     · go_wp2_with fail
       refine c1.calls ?_
       go_wp2_with fail
       go_round
       case rel => exact ⟨k + 1,by omega,by go_num,HA2⟩
       case measure => simp [intOf]; omega
   · obtain rfl:k = s.size:=by omega
     go_wp2_with fail
     go_ret
     have ht:v = true:=by
       rw [HV.out]
       have h9:=HA.out
       rw [List.take_of_length_le (show s.data.toList.length <= s.size from Nat.le_refl _)] at h9
       exact h9
     rw [ht]; exact ⟨rfl,rfl⟩
theorem all_data (p:Nat -> Bool) (hp:∀ (c:Nat) (q:Bool),c < 256 -> q = p c -> Ret 204 #[.int .u8 (c:Int)] (.bool q)) (s:ByteArray) (hm:s.size <= 140737488355328) (v:Bool) (hv:v = allB p s.data.toList):Ret 205 #[.string s,.func (.func 204) #[] #[]] (.bool v):=by
 intro w
 have HV:=lH hv
 have HP:=lH hp
 clear hv hp
 go_enter Tryz.func205,Tryz.ntmps205
 go_wp2_with fail
 go_loop [8,5] (fun i _ => ∃ k:Nat,k <= s.size /\ i = .int .i64 (k:Int) /\ Hid (allB p (s.data.toList.take k) = true)) (fun i _ => s.size - (intOf i).toNat)
 case atStart => exact ⟨0,by omega,rfl,lH rfl⟩
 case round =>
   obtain ⟨k,hk,rfl,HA⟩:=hrel
   by_cases hlt:k < s.size
   · obtain ⟨q,hq⟩:∃ q,q = p s[k].toNat:=⟨_,rfl⟩
     have c1:=HP.out s[k].toNat q s[k].toNat_lt hq
     have hts:s.data.toList.take (k + 1) = s.data.toList.take k ++ [s[k]]:=by
       rw [List.take_succ_eq_append_getElem (show k < s.data.toList.length from hlt)]; rfl
     have HA2:Hid (allB p (s.data.toList.take (k + 1)) = q):=lH (by rw [hts,allB_snoc,HA.out,<- hq]; rfl)
     clear hts hq
     cases q
     · go_wp2_with fail
       refine c1.calls ?_
       go_wp2_with fail
       go_ret
       have hf:v = false:=by
         rw [HV.out]
         cases h:allB p s.data.toList with
         | false => rfl
         | true =>
           have h9:=HA2.out
           unfold allB at h h9
           rw [List.all_eq_false] at h9
           obtain ⟨x,hx,hx2⟩:=h9
           exact absurd (List.all_eq_true.1 h x (List.mem_of_mem_take hx)) hx2
       rw [hf]; exact ⟨rfl,rfl⟩
     · go_wp2_with fail
       refine c1.calls ?_
       go_wp2_with fail
       go_round
       case rel => exact ⟨k + 1,by omega,by go_num,HA2⟩
       case measure => simp [intOf]; omega
   · obtain rfl:k = s.size:=by omega
     go_wp2_with fail
     go_ret
     have ht:v = true:=by
       rw [HV.out]
       have h9:=HA.out
       rw [List.take_of_length_le (show s.data.toList.length <= s.size from Nat.le_refl _)] at h9
       exact h9
     rw [ht]; exact ⟨rfl,rfl⟩
theorem val_1 (i d:ByteArray) (h1:((i.size:Int) == 2) = false):Mak 174 #[.agg #[.string i,.string d]] (.bool false):=by
 intro w
 have hp:=lH (hb_new w KT trivial #[.string i,.string d] 152)
 obtain ⟨_,m0,m1⟩:=hb2 hp
 have HS:=lH hp.out.since
 clear hp
 go_enter Tryz.func174,Tryz.ntmps174
 go_wp2_with fail
 go_ret
 exact ⟨rfl,HS.out⟩
theorem val_2 (i d:ByteArray) (h1:((i.size:Int) == 2) = true) (c1:Ret 205 #[.string i,.func (.func 203) #[] #[]] (.bool false)):Mak 174 #[.agg #[.string i,.string d]] (.bool false):=by
 intro w
 have hp:=lH (hb_new w KT trivial #[.string i,.string d] 152)
 obtain ⟨_,m0,m1⟩:=hb2 hp
 have HS:=lH hp.out.since
 clear hp
 go_enter Tryz.func174,Tryz.ntmps174
 go_wp2_with fail
 repeat (with_reducible refine c1.calls ?_; try go_wp2_with fail)
 go_ret
 exact ⟨rfl,HS.out⟩
theorem val_3 (i d:ByteArray) (h1:((i.size:Int) == 2) = true) (c1:Ret 205 #[.string i,.func (.func 203) #[] #[]] (.bool true)) (h2:decide ((d.size:Int) <= 9000) = false):Mak 174 #[.agg #[.string i,.string d]] (.bool false):=by
 intro w
 have hp:=lH (hb_new w KT trivial #[.string i,.string d] 152)
 obtain ⟨_,m0,m1⟩:=hb2 hp
 have HS:=lH hp.out.since
 clear hp
 go_enter Tryz.func174,Tryz.ntmps174
 go_wp2_with fail
 repeat (with_reducible refine c1.calls ?_; try go_wp2_with fail)
 go_ret
 exact ⟨rfl,HS.out⟩
theorem val_4 (i d:ByteArray) (h1:((i.size:Int) == 2) = true) (c1:Ret 205 #[.string i,.func (.func 203) #[] #[]] (.bool true)) (h2:decide ((d.size:Int) <= 9000) = true) (q:Bool) (c2:Ret 205 #[.string d,.func (.func 204) #[] #[]] (.bool q)):Mak 174 #[.agg #[.string i,.string d]] (.bool q):=by
 intro w
 have hp:=lH (hb_new w KT trivial #[.string i,.string d] 152)
 obtain ⟨_,m0,m1⟩:=hb2 hp
 have HS:=lH hp.out.since
 clear hp
 go_enter Tryz.func174,Tryz.ntmps174
 go_wp2_with fail
 repeat ((first | with_reducible refine c1.calls ?_ | with_reducible refine c2.calls ?_); try go_wp2_with fail)
 go_ret
 exact ⟨rfl,HS.out⟩
theorem valid_mak (i d:ByteArray) (hi:i.size <= 140737488355328) (hd:d.size <= 140737488355328):Mak 174 #[.agg #[.string i,.string d]] (.bool (may i d)):=by
 have c1:=all_id idN (fun c q hc hq => idc_ret c hc q hq) i hi _ rfl
 have c2:=all_data dataN (fun c q hc hq => datac_ret c hc q hq) d hd _ rfl
 unfold may
 by_cases h1:i.size = 2
 · have h1':((i.size:Int) == 2) = true:=by rw [beq_iff_eq]; omega
   rw [decide_eq_true h1]
   cases h2:allB idN i.data.toList with
   | false => rw [h2] at c1; exact val_2 i d h1' c1
   | true =>
     rw [h2] at c1
     by_cases h3:d.size <= 9000
     · rw [decide_eq_true h3]; exact val_4 i d h1' c1 (decide_eq_true (by omega)) _ c2
     · rw [decide_eq_false h3]; exact val_3 i d h1' c1 (decide_eq_false (by omega))
 · rw [decide_eq_false h1]; exact val_1 i d (by rw [beq_eq_false_iff_ne]; omega)
theorem hex_core (n:Int) (h0:0 <= n /\ n <= 100000) (k:Int) (P H:ByteArray) (c1:Mak 57 #[.int .u64 n,.int .i64 k] (.string P)) (c2:Mak 61 #[.string P] (.string H)):Mak 175 #[.int .i64 n,.int .i64 k] (.string H):=by
 intro w
 have HS:=lH (Since.refl w)
 have e2:IntKind.u64.wrap n = n:=IntWalk.u64_in _ (by omega)
 go_enter Tryz.func175,Tryz.ntmps175
 go_wp2_with fail
 repeat ((first | with_reducible refine c1.calls HS.out ?_ | with_reducible refine c2.calls HS.out ?_); intro wz hz; replace HS:=lH hz; clear hz; try go_wp2_with fail)
 go_ret
 exact ⟨rfl,HS.out⟩
theorem hex1 (n:Int) (h0:0 <= n /\ n <= 100000):Mak 175 #[.int .i64 n,.int .i64 1] (.string (hexN n 1)):=by
 refine hex_core n h0 1 (bs (RefOct.low n 1)) _ (fun w => ?_) (fun w => ?_)
 · have h:=Oct.put_mid n 1 w (by omega) (by omega) (by decide) (by decide)
   rw [RefOct.put_same n 1 (by decide)] at h
   exact h
 · exact Dig.hex_any (bs (RefOct.low n 1)) w (by rw [size_bs,RefOct.low_len]; decide)
theorem hex2 (n:Int) (h0:0 <= n /\ n <= 100000):Mak 175 #[.int .i64 n,.int .i64 2] (.string (hexN n 2)):=by
 refine hex_core n h0 2 (bs (RefOct.low n 2)) _ (fun w => ?_) (fun w => ?_)
 · have h:=Oct.put_mid n 2 w (by omega) (by omega) (by decide) (by decide)
   rw [RefOct.put_same n 2 (by decide)] at h
   exact h
 · exact Dig.hex_any (bs (RefOct.low n 2)) w (by rw [size_bs,RefOct.low_len]; decide)
theorem enc_bad (i d:ByteArray) (c1:Mak 174 #[.agg #[.string i,.string d]] (.bool false)):Mak 139 #[.agg #[.string i,.string d]] (.tuple #[.string ⟨#[]⟩,.int .i64 5]):=by
 intro w
 have hp:=lH (hb_new w KT trivial #[.string i,.string d] 152)
 obtain ⟨_,m0,m1⟩:=hb2 hp
 have hg:=hp.out.lg
 have HS:=lH hp.out.since
 clear hp
 go_enter Tryz.func139,Tryz.ntmps139
 go_wp2_with fail
 repeat (with_reducible refine c1.calls0 ?_; intro wz hz; replace m0:=(Below.cell hz (by exact hg)).trans m0; replace m1:=(Below.cell hz (by exact hg)).trans m1; replace hg:=Nat.lt_of_lt_of_le hg (Below.size hz); replace HS:=lH (HS.out.step hz); clear hz; try go_wp2_with fail)
 go_ret2
 exact ⟨rfl,HS.out⟩
set_option maxHeartbeats 8000000 in
theorem enc_short (i d H X:ByteArray) (n:Nat) (hn:n = d.size + 4) (h255:n <= 255) (hX:X = bs (Oct.cat [i,H,d])) (hm:X.size <= 100000) (c1:Mak 174 #[.agg #[.string i,.string d]] (.bool true)) (c2:Mak 175 #[.int .i64 (n:Int),.int .i64 1] (.string H)):Mak 139 #[.agg #[.string i,.string d]] (.tuple #[.string X,.int .i64 0]):=by
 intro w
 have hp:=lH (hb_new w KT trivial #[.string i,.string d] 152)
 obtain ⟨_,m0,m1⟩:=hb2 hp
 have hg:=hp.out.lg
 have HS:=lH hp.out.since
 have e1:IntKind.i64.wrap (4 + (d.size:Int)) = (n:Int):=by rw [IntWalk.i64_in _ (by omega)]; omega
 have HJ:=lH (fun W => Oct.join_lit W [i,H,d] 3 rfl #[.string i,.string H,.string d] rfl X hX (by omega) (by decide))
 have t1:decide ((n:Int) <= 255) = true:=decide_eq_true (by omega)
 clear hX hn
 go_enter Tryz.func139,Tryz.ntmps139
 go_wp2_with fail
 repeat (with_reducible refine c1.calls0 ?_; intro wz hz; replace hp:=lH (hp.out.step hz); replace m0:=(Below.cell hz (by exact hg)).trans m0; replace m1:=(Below.cell hz (by exact hg)).trans m1; replace hg:=Nat.lt_of_lt_of_le hg (Below.size hz); replace HS:=lH (HS.out.step hz); clear hz; try go_wp2_with fail)
 clear HS m0 m1 hg
 go_region_held3 (fun W => Hid (HB w KT w.heap.size #[.string i,.string d] W) /\ W.cell? ⟨w.heap.size,0,none⟩ = some (.string i) /\ W.cell? ⟨w.heap.size,1,none⟩ = some (.string d))
   (first | exact hb2 (by assumption) | exact hb2 (hbdrew (by assumption)) | exact hb2 (hbal (by assumption)) | exact hb2 (hbal (hbdrew (by assumption))) | exact hb2 (hbdrew (hbal (by assumption))))
   (first
     | (go_at_call 175; with_reducible refine c2.calls0 ?_; intro wy hby; have hpy:=hbstep hby (by first | assumption | exact hbdrew (by assumption)); clear hby)
     | (go_at_call 56; with_reducible refine (HJ.out _).mono ?_; rintro e wy ⟨rfl,hby⟩; have hpy:=hbstep hby (by first | assumption | exact hbdrew (by assumption) | exact hbal (by assumption) | exact hbal (hbdrew (by assumption))); clear hby))
 all_goals
   go_wp2_with fail
   go_ret2
   exact ⟨rfl,(Hid.out (by first | assumption | exact hbdrew (by assumption)):HB w KT w.heap.size _ _).since⟩
set_option maxHeartbeats 8000000 in
theorem enc_long (i d H0 H1 H2 X:ByteArray) (n m:Nat) (hn:n = d.size + 4) (h255:255 < n) (h9:n <= 10000) (hm:m = d.size + 10) (hX:X = bs (Oct.cat [i,H0,H1,H2,d])) (hz:X.size <= 100000) (c1:Mak 174 #[.agg #[.string i,.string d]] (.bool true))
   (c2:Mak 175 #[.int .i64 0,.int .i64 1] (.string H0)) (c3:Mak 175 #[.int .i64 4,.int .i64 1] (.string H1)) (c4:Mak 175 #[.int .i64 (m:Int),.int .i64 2] (.string H2)):Mak 139 #[.agg #[.string i,.string d]] (.tuple #[.string X,.int .i64 0]):=by
 intro w
 have hp:=lH (hb_new w KT trivial #[.string i,.string d] 152)
 obtain ⟨_,m0,m1⟩:=hb2 hp
 have hg:=hp.out.lg
 have HS:=lH hp.out.since
 have e1:IntKind.i64.wrap (4 + (d.size:Int)) = (n:Int):=by rw [IntWalk.i64_in _ (by omega)]; omega
 have e2:IntKind.i64.wrap (10 + (d.size:Int)) = (m:Int):=by rw [IntWalk.i64_in _ (by omega)]; omega
 have HJ:=lH (fun W => Oct.join_lit W [i,H0,H1,H2,d] 5 rfl #[.string i,.string H0,.string H1,.string H2,.string d] rfl X hX (by omega) (by decide))
 have t1:decide ((n:Int) <= 255) = false:=decide_eq_false (by omega)
 clear hX hn hm
 go_enter Tryz.func139,Tryz.ntmps139
 go_wp2_with fail
 repeat (with_reducible refine c1.calls0 ?_; intro wz hz; replace hp:=lH (hp.out.step hz); replace m0:=(Below.cell hz (by exact hg)).trans m0; replace m1:=(Below.cell hz (by exact hg)).trans m1; replace hg:=Nat.lt_of_lt_of_le hg (Below.size hz); replace HS:=lH (HS.out.step hz); clear hz; try go_wp2_with fail)
 clear HS m0 m1 hg
 go_region_held3 (fun W => Hid (HB w KT w.heap.size #[.string i,.string d] W) /\ W.cell? ⟨w.heap.size,0,none⟩ = some (.string i) /\ W.cell? ⟨w.heap.size,1,none⟩ = some (.string d))
   (first | exact hb2 (by assumption) | exact hb2 (hbdrew (by assumption)) | exact hb2 (hbal (by assumption)) | exact hb2 (hbal (hbdrew (by assumption))) | exact hb2 (hbdrew (hbal (by assumption))))
   (first
     | (go_at_call 175; with_reducible refine c2.calls0 ?_; intro wy hby; have hpy:=hbstep hby (by first | assumption | exact hbdrew (by assumption)); clear hby)
     | (go_at_call 175; with_reducible refine c3.calls0 ?_; intro wy hby; have hpy:=hbstep hby (by first | assumption | exact hbdrew (by assumption)); clear hby)
     | (go_at_call 175; with_reducible refine c4.calls0 ?_; intro wy hby; have hpy:=hbstep hby (by first | assumption | exact hbdrew (by assumption)); clear hby)
     | (go_at_call 56; with_reducible refine (HJ.out _).mono ?_; rintro e wy ⟨rfl,hby⟩; have hpy:=hbstep hby (by first | assumption | exact hbdrew (by assumption) | exact hbal (by assumption) | exact hbal (hbdrew (by assumption))); clear hby))
 all_goals
   go_wp2_with fail
   go_ret2
   exact ⟨rfl,(Hid.out (by first | assumption | exact hbdrew (by assumption)):HB w KT w.heap.size _ _).since⟩
def encE (i d:ByteArray):Int:=if may i d then 0 else 5
def encX (i d:ByteArray):ByteArray:=if may i d then enc i d else ⟨#[]⟩
theorem may_sizes (i d:ByteArray) (h:may i d = true):i.size = 2 /\ d.size <= 9000:=by
 unfold may at h
 rw [Bool.and_eq_true,Bool.and_eq_true,Bool.and_eq_true] at h
 exact ⟨of_decide_eq_true h.1.1.1,of_decide_eq_true h.1.2⟩
theorem enc_size (i d:ByteArray) (h:may i d = true):(enc i d).size = if d.size <= 251 then d.size + 4 else d.size + 10:=by
 have:=(may_sizes i d h).1
 have h4:(⟨#[48,48,48,52]⟩:ByteArray).size = 4:=rfl
 unfold enc
 split
 · rw [ByteArray.size_append,ByteArray.size_append,hexN_size]; omega
 · rw [ByteArray.size_append,ByteArray.size_append,ByteArray.size_append,hexN_size]; omega
theorem encode_mak (i d:ByteArray) (hi:i.size <= 140737488355328) (hd:d.size <= 140737488355328) (X:ByteArray) (E:Int) (hX:X = encX i d) (hE:E = encE i d):Mak 139 #[.agg #[.string i,.string d]] (.tuple #[.string X,.int .i64 E]):=by
 subst hX hE
 have c1:=valid_mak i d hi hd
 unfold encX encE
 cases h:may i d with
 | false => rw [h] at c1; exact enc_bad i d c1
 | true =>
   rw [h] at c1
   obtain ⟨h1,h2⟩:=may_sizes i d h
   have hz:=enc_size i d h
   rw [if_pos rfl,if_pos rfl]
   by_cases h3:d.size <= 251
   · rw [if_pos h3] at hz
     refine enc_short i d (hexN ((d.size:Int) + 4) 1) _ (d.size + 4) rfl (by omega) ?_ (by omega) c1 (hex1 _ (by omega))
     unfold enc; rw [if_pos h3]
     apply ba_ext; rw [list_bs,app_list,app_list]; simp [Oct.cat]
   · rw [if_neg h3] at hz
     refine enc_long i d (hexN 0 1) (hexN 4 1) (hexN ((d.size:Int) + 10) 2) _ (d.size + 4) (d.size + 10) rfl (by omega) (by omega) rfl ?_ (by omega) c1 (hex1 _ (by omega)) (hex1 _ (by omega)) (hex2 _ (by omega))
     unfold enc; rw [if_neg h3]
     apply ba_ext; rw [list_bs,app_list,app_list,app_list]; simp only [Oct.cat,List.map,List.flatten_cons,List.flatten_nil,List.append_nil]
     rw [show (hexN 0 1).data.toList = [48,48] by decide +kernel,show (hexN 4 1).data.toList = [48,52] by decide +kernel]
     simp
end Opt
end Go.Proofs.YtddlaafpianjbaaGreatDoor
