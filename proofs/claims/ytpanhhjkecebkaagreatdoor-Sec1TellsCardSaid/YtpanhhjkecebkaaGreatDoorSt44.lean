import Derived.Test.YtpanhhjkecebkaaGreatDoorSt7
import Derived.Test.YtpanhhjkecebkaaGreatDoorSt40
set_option maxRecDepth 100000
namespace Go.Proofs.YtpanhhjkecebkaaGreatDoor
open Go.RowKit
namespace Sec
open Tlv Tree Strs Curve
set_option maxHeartbeats 4000000 in
theorem build_core (no:Int) (k nm:ByteArray) (xs:List Int) (qn:Bool) (c1:KMkI Tabs 38 #[.int .i64 no] xs) (c2:∀ w v,IntsS w v xs -> Calls Tryz.prog 37 #[v] w fun e w' => e = .returned (.tuple #[.string nm,.bool qn]) /\ Since w w') (c3:Mak 41 #[.int .i64 1] (.string ⟨#[1]⟩)) (w:World) (hT:Tabs w) :
   Calls Tryz.prog 14 #[.int .i64 no,.string k] w fun e w' => ∃ v,e = .returned v /\ TreeS w' v (keyN nm k) /\ Since w w':=by
 have HS:=lH (Since.refl w)
 have HT:=lH hT
 clear hT
 go_enter Tryz.func14,Tryz.ntmps14
 go_wp2_with fail
 refine (c1 _ HT.out).mono ?_
 rintro _ w1 ⟨v1,rfl,hv1,h1⟩
 obtain ⟨A1,q1,e1,-,-⟩:=hv1.slice
 subst e1
 replace HS:=lH (HS.out.step h1)
 have HV:=lH hv1
 clear hv1 h1
 go_wp2_with fail
 refine (c2 _ _ HV.out).mono ?_
 rintro _ w2 ⟨rfl,h2⟩
 replace HS:=lH (HS.out.step h2)
 clear h2 HV
 go_wp2_with fail
 refine c3.calls0 ?_
 intro w3 h3
 replace HS:=lH (HS.out.step h3)
 clear h3
 go_wp2_with fail
 refine (leaf_mk 0 2 ⟨#[1]⟩ _).mono ?_
 rintro _ w4 ⟨v4,rfl,t4,h4⟩
 obtain ⟨A4,q4,e4,-,-⟩:=t4.slice
 replace e4:v4 = .slice A4 1 q4:=e4
 subst e4
 replace HS:=lH (HS.out.step h4)
 have T4:=lH t4
 clear h4 t4
 go_wp2_with fail
 refine (leaf_mk 0 4 k _).mono ?_
 rintro _ w5 ⟨v5,rfl,t5,h5⟩
 obtain ⟨A5,q5,e5,-,-⟩:=t5.slice
 replace e5:v5 = .slice A5 1 q5:=e5
 subst e5
 replace HS:=lH (HS.out.step h5)
 replace T4:=lH (T4.out.since h5)
 have T5:=lH t5
 clear h5 t5
 go_wp2_with fail
 refine (leaf_mk 0 6 nm _).mono ?_
 rintro _ w6 ⟨v6,rfl,t6,h6⟩
 obtain ⟨A6,q6,e6,-,-⟩:=t6.slice
 replace e6:v6 = .slice A6 1 q6:=e6
 subst e6
 replace HS:=lH (HS.out.step h6)
 replace T4:=lH (T4.out.since h6)
 replace T5:=lH (T5.out.since h6)
 have hb:=(Since.refl w6).alloc (.cells #[.slice A6 1 q6] 33)
 have T6:=lH (trees_lit w6 [.slice A6 1 q6] ([F.prim 0 6 nm .nil].map (fun g => g.flat 0)) rfl (by show 1 <= 1000; omega) (fun j x N hx hN => by
   have hj:j = 0:=by have:=(List.getElem?_eq_some_iff.1 hx).1; simpa using this
   subst hj
   cases hx
   cases hN
   exact t6) #[.slice A6 1 q6] rfl 33)
 replace HS:=lH (HS.out.step hb)
 replace T4:=lH (T4.out.since hb)
 replace T5:=lH (T5.out.since hb)
 clear h6 t6 hb
 go_wp2_with fail
 refine (of_g 2 0 [F.prim 0 6 nm .nil] (fun g hg => by rw [List.mem_singleton.1 hg]; exact rfl) (by show 1 <= 1000; omega) (by show 1 + 0 <= 1000; omega) _ _ T6.out).mono ?_
 rintro _ w7 ⟨v7,rfl,t7,h7⟩
 obtain ⟨A7,q7,e7,-,-⟩:=t7.slice
 replace e7:v7 = .slice A7 2 q7:=e7
 subst e7
 replace HS:=lH (HS.out.step h7)
 replace T4:=lH (T4.out.since h7)
 replace T5:=lH (T5.out.since h7)
 have hb:=(Since.refl w7).alloc (.cells #[.slice A4 1 q4,.slice A5 1 q5,.slice A7 2 q7] 33)
 have T8:=lH (trees_lit w7 [.slice A4 1 q4,.slice A5 1 q5,.slice A7 2 q7] ([F.prim 0 2 ⟨#[1]⟩ .nil,F.prim 0 4 k .nil,F.cons 2 0 (.prim 0 6 nm .nil) .nil].map (fun g => g.flat 0)) rfl (by show 3 <= 1000; omega) (fun j x N hx hN => by
   have hj:j < 3:=by have:=(List.getElem?_eq_some_iff.1 hx).1; simpa using this
   match j,hj with
   | 0,_ => cases hx; cases hN; exact T4.out
   | 1,_ => cases hx; cases hN; exact T5.out
   | 2,_ => cases hx; cases hN; exact t7) #[.slice A4 1 q4,.slice A5 1 q5,.slice A7 2 q7] rfl 33)
 replace HS:=lH (HS.out.step hb)
 clear h7 t7 hb T4 T5 T6
 go_wp2_with fail
 refine (of_g 0 16 [F.prim 0 2 ⟨#[1]⟩ .nil,F.prim 0 4 k .nil,F.cons 2 0 (.prim 0 6 nm .nil) .nil] (fun g hg => by
   simp only [List.mem_cons,List.not_mem_nil,or_false] at hg
   rcases hg with rfl | rfl | rfl <;> exact rfl) (by show 3 <= 1000; omega) (by show 1 + (1 + (1 + (1 + 0) + 0)) <= 1000; omega) _ _ T8.out).mono ?_
 rintro _ w9 ⟨v9,rfl,t9,h9⟩
 obtain ⟨A9,q9,e9,-,-⟩:=t9.slice
 replace e9:v9 = .slice A9 5 q9:=e9
 subst e9
 replace HS:=lH (HS.out.step h9)
 have T9:=lH t9
 clear h9 t9 T8
 go_wp2_with fail
 go_ret
 exact ⟨_,rfl,T9.out,HS.out⟩
theorem one_mak:Mak 41 #[.int .i64 1] (.string ⟨#[1]⟩):=Whole.enc_mak 1 1 rfl (by decide) (by decide) _ (by decide +kernel)
theorem build_k (no:Int) (h:1 <= no /\ no <= 4) (k:ByteArray) (w:World) (hT:Tabs w):Calls Tryz.prog 14 #[.int .i64 no,.string k] w fun e w' => ∃ v,e = .returned v /\ TreeS w' v (keyN (nmOf no) k) /\ Since w w' :=
 build_core no k (nmOf no) _ true (arcs_k no _ rfl) (fun w v hv => Oid.encode_yes w v _ hv (arcs_ok no h) _ rfl) one_mak w hT
theorem small_key (nm k:ByteArray) (h1:nm.size <= 1000) (h2:k.size <= 1000):Small (keyN nm k):=⟨by show 5 <= 100000; omega,fun x hx => by
 have hx':x ∈ [(⟨0,16,true,⟨#[]⟩,[1,2,3]⟩:Nd),⟨0,2,false,⟨#[1]⟩,[]⟩,⟨0,4,false,k,[]⟩,⟨2,0,true,⟨#[]⟩,[4]⟩,⟨0,6,false,nm,[]⟩]:=hx
 simp only [List.mem_cons,List.not_mem_nil,or_false] at hx'
 rcases hx' with rfl | rfl | rfl | rfl | rfl
 · exact Nat.zero_le _
 · show 1 <= 100000; omega
 · show k.size <= 100000; omega
 · exact Nat.zero_le _
 · show nm.size <= 100000; omega⟩
theorem enc_key (nm k:ByteArray) (h:rightB 6 nm = true) (h1:nm.size <= 1000) (h2:k.size <= 1000):RdT 13 (keyN nm k) (fun v => #[v]) (.tuple #[.string (bs (keyF nm k).enc),.int .i64 0]):=by
 have hk:=key_is nm k h
 have c4:=rig_rd _ (small_key nm k h1 h2)
 rw [is_right hk] at c4
 have hl:=key_le nm k
 exact enc_yes _ _ _ (wr_of hk) (by omega) (small_key nm k h1 h2) hk.len (fair_of hk).kids c4
def derS (no:Int) (k:ByteArray):ByteArray:=bs (keyF (nmOf no) k).enc
theorem enc_bad (no:Int) (k:ByteArray) (E:Int) (hE:(E != 0) = true) (c1:KMk Tabs 12 #[.int .i64 no,.string k] (.int .i64 E)):KMk Tabs 6 #[.int .i64 no,.string k] (.tuple #[.string ⟨#[]⟩,.int .i64 E]):=by
 intro w hT
 have HT:=lH hT
 have HS:=lH (Since.refl w)
 clear hT
 go_enter Tryz.func6,Tryz.ntmps6
 go_wp2_with fail
 refine c1.calls0 HT.out ?_
 intro w1 h1
 replace HS:=lH (HS.out.step h1)
 clear h1
 go_wp2_with fail
 go_ret2
 exact ⟨rfl,HS.out⟩
theorem enc_good (no:Int) (k X:ByteArray) (N:List Nd) (h5:N.length = 5) (c1:KMk Tabs 12 #[.int .i64 no,.string k] (.int .i64 0)) (c2:∀ w,Tabs w -> Calls Tryz.prog 14 #[.int .i64 no,.string k] w fun e w' => ∃ v,e = .returned v /\ TreeS w' v N /\ Since w w') (c3:RdT 13 N (fun v => #[v]) (.tuple #[.string X,.int .i64 0])):KMk Tabs 6 #[.int .i64 no,.string k] (.tuple #[.string X,.int .i64 0]):=by
 intro w hT
 have HT:=lH hT
 have HS:=lH (Since.refl w)
 clear hT
 go_enter Tryz.func6,Tryz.ntmps6
 go_wp2_with fail
 refine c1.calls0 HT.out ?_
 intro w1 h1
 replace HS:=lH (HS.out.step h1)
 replace HT:=lH (Kp.keep HT.out h1)
 clear h1
 go_wp2_with fail
 refine (c2 _ HT.out).mono ?_
 rintro _ w2 ⟨v2,rfl,t2,h2⟩
 obtain ⟨A2,q2,e2,-,-⟩:=t2.slice
 rw [h5] at e2
 subst e2
 replace HS:=lH (HS.out.step h2)
 have T2:=lH t2
 clear h2 t2
 go_wp2_with fail
 refine c3.calls0 T2.out ?_
 intro w3 h3
 replace HS:=lH (HS.out.step h3)
 clear h3
 go_wp2_with fail
 go_ret2
 exact ⟨rfl,HS.out⟩
theorem encode_k (no:Int) (k:ByteArray) (hm:k.size <= 1000) (X:ByteArray) (E:Int) (hE:E = chkE no k) (hX:X = if E = 0 then derS no k else ⟨#[]⟩):KMk Tabs 6 #[.int .i64 no,.string k] (.tuple #[.string X,.int .i64 E]):=by
 have c1:=check_k no k (by omega) E hE
 by_cases h:E = 0
 · rw [if_pos h] at hX
   subst hX
   have hz:=chk_zero no k (by rw [<- hE,h])
   rw [h] at c1 ⊢
   have hnm:=nm_size no
   exact enc_good no k _ (keyN (nmOf no) k) rfl c1 (build_k no hz.1 k) (enc_key (nmOf no) k (nm_right no hz.1) (by omega) hm)
 · rw [if_neg h] at hX
   subst hX
   exact enc_bad no k E (by simpa using h) c1
def sizI (no:Int):Int:=if (rowOf no).2.1 = 0 then 0 else ((keyF (nmOf no) (bs (List.replicate (rowOf no).2.1.toNat 0))).enc.length:Int)
theorem size_no (no:Int) (c1:KMk Tabs 29 #[.int .i64 no] (.int .i64 0)):KMk Tabs 10 #[.int .i64 no] (.int .i64 0):=by
 intro w hT
 have HT:=lH hT
 have HS:=lH (Since.refl w)
 clear hT
 go_enter Tryz.func10,Tryz.ntmps10
 go_wp2_with fail
 refine c1.calls0 HT.out ?_
 intro w1 h1
 replace HS:=lH (HS.out.step h1)
 clear h1
 go_wp2_with fail
 go_ret
 exact ⟨rfl,HS.out⟩
theorem size_yes (no n:Int) (Z:ByteArray) (V:Int) (N:List Nd) (h5:N.length = 5) (h0:(n == 0) = false) (c1:KMk Tabs 29 #[.int .i64 no] (.int .i64 n)) (c2:Mak 31 #[.string ⟨#[0]⟩,.int .i64 n] (.string Z)) (c3:∀ w,Tabs w -> Calls Tryz.prog 14 #[.int .i64 no,.string Z] w fun e w' => ∃ v,e = .returned v /\ TreeS w' v N /\ Since w w') (c4:RdT 30 N (fun v => #[v]) (.int .i64 V)):KMk Tabs 10 #[.int .i64 no] (.int .i64 V):=by
 intro w hT
 have HT:=lH hT
 have HS:=lH (Since.refl w)
 clear hT
 go_enter Tryz.func10,Tryz.ntmps10
 go_wp2_with fail
 refine c1.calls0 HT.out ?_
 intro w1 h1
 replace HS:=lH (HS.out.step h1)
 replace HT:=lH (Kp.keep HT.out h1)
 clear h1
 go_wp2_with fail
 refine c1.calls0 HT.out ?_
 intro w2 h1
 replace HS:=lH (HS.out.step h1)
 replace HT:=lH (Kp.keep HT.out h1)
 clear h1
 go_wp2_with fail
 refine c2.calls0 ?_
 intro w3 h1
 replace HS:=lH (HS.out.step h1)
 replace HT:=lH (Kp.keep HT.out h1)
 clear h1
 go_wp2_with fail
 refine (c3 _ HT.out).mono ?_
 rintro _ w4 ⟨v2,rfl,t2,h2⟩
 obtain ⟨A2,q2,e2,-,-⟩:=t2.slice
 rw [h5] at e2
 subst e2
 replace HS:=lH (HS.out.step h2)
 have T2:=lH t2
 clear h2 t2
 go_wp2_with fail
 refine c4.calls0 T2.out ?_
 intro w5 h3
 replace HS:=lH (HS.out.step h3)
 clear h3
 go_wp2_with fail
 go_ret
 exact ⟨rfl,HS.out⟩
theorem rep_mak (n:Nat) (hn:n <= 1000):Mak 31 #[.string ⟨#[0]⟩,.int .i64 (n:Int)] (.string (bs (List.replicate n 0))):=fun w => by
 have h:=Tryz.strings_Repeat ⟨#[0]⟩ n w (by omega) (by show 1 * _ <= _; omega)
 have e:Lib.repeatL (⟨#[0]⟩:ByteArray).data.toList n = List.replicate n 0:=by
   have:=Lib.repeatL_replicate 0 1 n
   rw [Nat.mul_one] at this
   exact this
 rw [e] at h
 exact h
theorem size_k (no:Int) (V:Int) (hV:V = sizI no):KMk Tabs 10 #[.int .i64 no] (.int .i64 V):=by
 subst hV
 have c1:=width_k no _ rfl
 unfold sizI
 by_cases h0:(rowOf no).2.1 = 0
 · rw [if_pos h0]
   rw [h0] at c1
   exact size_no no c1
 · rw [if_neg h0]
   have hw:=wid_le no
   obtain ⟨n,hn⟩:∃ n:Nat,n = (rowOf no).2.1.toNat:=⟨_,rfl⟩
   have hn2:(rowOf no).2.1 = (n:Int):=by omega
   have hi:=chk_in no h0
   have hnm:=nm_size no
   have hz:(bs (List.replicate n (0:UInt8))).size = n:=by rw [size_bs,List.length_replicate]
   rw [<- hn]
   rw [hn2] at c1 h0
   have c4:=size_rd _ _ _ (enc_key (nmOf no) (bs (List.replicate n 0)) (nm_right no hi) (by omega) (by omega))
   rw [size_bs] at c4
   exact size_yes no n _ _ _ rfl (beq_eq_false_iff_ne.2 h0) c1 (rep_mak n (by omega)) (build_k no hi _) c4
end Sec
namespace Sec
open Tlv Tree Strs Curve
theorem renc_1 (no:Int) (k:ByteArray) (c1:Mak 15 #[.int .i64 no] (.int .i64 0)):Mak 7 #[.int .i64 no,.string k] (.tuple #[.string ⟨#[]⟩,.int .i64 8]):=by
 intro w
 have HS:=lH (Since.refl w)
 go_enter Tryz.func7,Tryz.ntmps7
 go_wp2_with fail
 refine c1.calls0 ?_
 intro w1 h9
 replace HS:=lH (HS.out.step h9)
 clear h9
 go_wp2_with fail
 go_ret2
 exact ⟨rfl,HS.out⟩
theorem renc_2 (no:Int) (k:ByteArray) (n:Int) (h0:(n == 0) = false) (h1:((k.size:Int) != n) = true) (c1:Mak 15 #[.int .i64 no] (.int .i64 n)):Mak 7 #[.int .i64 no,.string k] (.tuple #[.string ⟨#[]⟩,.int .i64 9]):=by
 intro w
 have HS:=lH (Since.refl w)
 go_enter Tryz.func7,Tryz.ntmps7
 go_wp2_with fail
 refine c1.calls0 ?_
 intro w1 h9
 replace HS:=lH (HS.out.step h9)
 clear h9
 go_wp2_with fail
 refine c1.calls0 ?_
 intro w2 h9
 replace HS:=lH (HS.out.step h9)
 clear h9
 go_wp2_with fail
 go_ret2
 exact ⟨rfl,HS.out⟩
theorem renc_3 (no:Int) (k:ByteArray) (n:Int) (h0:(n == 0) = false) (h1:((k.size:Int) != n) = false) (c1:Mak 15 #[.int .i64 no] (.int .i64 n)) (c2:Mak 16 #[.int .i64 no,.string k] (.bool false)):Mak 7 #[.int .i64 no,.string k] (.tuple #[.string ⟨#[]⟩,.int .i64 10]):=by
 intro w
 have HS:=lH (Since.refl w)
 go_enter Tryz.func7,Tryz.ntmps7
 go_wp2_with fail
 refine c1.calls0 ?_
 intro w1 h9
 replace HS:=lH (HS.out.step h9)
 clear h9
 go_wp2_with fail
 refine c1.calls0 ?_
 intro w2 h9
 replace HS:=lH (HS.out.step h9)
 clear h9
 go_wp2_with fail
 refine c2.calls0 ?_
 intro w3 h9
 replace HS:=lH (HS.out.step h9)
 clear h9
 go_wp2_with fail
 go_ret2
 exact ⟨rfl,HS.out⟩
set_option maxHeartbeats 4000000 in
theorem renc_4 (no:Int) (k:ByteArray) (n:Int) (h0:(n == 0) = false) (h1:((k.size:Int) != n) = false) (c1:Mak 15 #[.int .i64 no] (.int .i64 n)) (c2:Mak 16 #[.int .i64 no,.string k] (.bool true)) (nm:ByteArray) (xs:List Int) (qn:Bool) (c3:KMkI KAll 18 #[.int .i64 no] xs) (c4:∀ w v,IntsS w v xs -> Calls Tryz.prog 17 #[v] w fun e w' => e = .returned (.tuple #[.string nm,.bool qn]) /\ Since w w') (X:ByteArray) (c5:RdT 21 (keyN nm k) (fun v => #[v]) (.tuple #[.string X,.int .i64 0])):Mak 7 #[.int .i64 no,.string k] (.tuple #[.string X,.int .i64 0]):=by
 intro w
 have HS:=lH (Since.refl w)
 go_enter Tryz.func7,Tryz.ntmps7
 go_wp2_with fail
 refine c1.calls0 ?_
 intro w1 h9
 replace HS:=lH (HS.out.step h9)
 clear h9
 go_wp2_with fail
 refine c1.calls0 ?_
 intro w2 h9
 replace HS:=lH (HS.out.step h9)
 clear h9
 go_wp2_with fail
 refine c2.calls0 ?_
 intro w3 h9
 replace HS:=lH (HS.out.step h9)
 clear h9
 go_wp2_with fail
 refine (c3 _ trivial).mono ?_
 rintro _ w1 ⟨v1,rfl,hv1,h1⟩
 obtain ⟨A1,q1,e1,-,-⟩:=hv1.slice
 subst e1
 replace HS:=lH (HS.out.step h1)
 have HV:=lH hv1
 clear hv1 h1
 go_wp2_with fail
 refine (c4 _ _ HV.out).mono ?_
 rintro _ w2 ⟨rfl,h2⟩
 replace HS:=lH (HS.out.step h2)
 clear h2 HV
 go_wp2_with fail
 refine (rleaf_mk 0 6 nm _).mono ?_
 rintro _ w6 ⟨v6,rfl,t6,h6⟩
 obtain ⟨A6,q6,e6,-,-⟩:=t6.slice
 replace e6:v6 = .slice A6 1 q6:=e6
 subst e6
 replace HS:=lH (HS.out.step h6)
 have hb:=(Since.refl w6).alloc (.cells #[.slice A6 1 q6] 33)
 have T6:=lH (trees_lit w6 [.slice A6 1 q6] ([F.prim 0 6 nm .nil].map (fun g => g.flat 0)) rfl (by show 1 <= 1000; omega) (fun j x N hx hN => by
   have hj:j = 0:=by have:=(List.getElem?_eq_some_iff.1 hx).1; simpa using this
   subst hj
   cases hx
   cases hN
   exact t6) #[.slice A6 1 q6] rfl 33)
 replace HS:=lH (HS.out.step hb)
 clear h6 t6 hb
 go_wp2_with fail
 refine (rof_g 2 0 [F.prim 0 6 nm .nil] (fun g hg => by rw [List.mem_singleton.1 hg]; exact rfl) (by show 1 <= 1000; omega) (by show 1 + 0 <= 1000; omega) _ _ T6.out).mono ?_
 rintro _ w7 ⟨v7,rfl,t7,h7⟩
 obtain ⟨A7,q7,e7,-,-⟩:=t7.slice
 replace e7:v7 = .slice A7 2 q7:=e7
 subst e7
 replace HS:=lH (HS.out.step h7)
 have T7:=lH t7
 clear h7 t7 T6
 go_wp2_with fail
 refine (rleaf_mk 0 2 ⟨#[1]⟩ _).mono ?_
 rintro _ w4 ⟨v4,rfl,t4,h4⟩
 obtain ⟨A4,q4,e4,-,-⟩:=t4.slice
 replace e4:v4 = .slice A4 1 q4:=e4
 subst e4
 replace HS:=lH (HS.out.step h4)
 replace T7:=lH (T7.out.since h4)
 have T4:=lH t4
 clear h4 t4
 go_wp2_with fail
 refine (rleaf_mk 0 4 k _).mono ?_
 rintro _ w5 ⟨v5,rfl,t5,h5⟩
 obtain ⟨A5,q5,e5,-,-⟩:=t5.slice
 replace e5:v5 = .slice A5 1 q5:=e5
 subst e5
 replace HS:=lH (HS.out.step h5)
 replace T4:=lH (T4.out.since h5)
 replace T7:=lH (T7.out.since h5)
 have hb:=(Since.refl w5).alloc (.cells #[.slice A4 1 q4,.slice A5 1 q5,.slice A7 2 q7] 33)
 have T8:=lH (trees_lit w5 [.slice A4 1 q4,.slice A5 1 q5,.slice A7 2 q7] ([F.prim 0 2 ⟨#[1]⟩ .nil,F.prim 0 4 k .nil,F.cons 2 0 (.prim 0 6 nm .nil) .nil].map (fun g => g.flat 0)) rfl (by show 3 <= 1000; omega) (fun j x N hx hN => by
   have hj:j < 3:=by have:=(List.getElem?_eq_some_iff.1 hx).1; simpa using this
   match j,hj with
   | 0,_ => cases hx; cases hN; exact T4.out
   | 1,_ => cases hx; cases hN; exact t5
   | 2,_ => cases hx; cases hN; exact T7.out) #[.slice A4 1 q4,.slice A5 1 q5,.slice A7 2 q7] rfl 33)
 replace HS:=lH (HS.out.step hb)
 clear h5 t5 hb T4 T7
 go_wp2_with fail
 refine (rof_g 0 16 [F.prim 0 2 ⟨#[1]⟩ .nil,F.prim 0 4 k .nil,F.cons 2 0 (.prim 0 6 nm .nil) .nil] (fun g hg => by
   simp only [List.mem_cons,List.not_mem_nil,or_false] at hg
   rcases hg with rfl | rfl | rfl <;> exact rfl) (by show 3 <= 1000; omega) (by show 1 + (1 + (1 + (1 + 0) + 0)) <= 1000; omega) _ _ T8.out).mono ?_
 rintro _ w9 ⟨v9,rfl,t9,h9⟩
 obtain ⟨A9,q9,e9,-,-⟩:=t9.slice
 replace e9:v9 = .slice A9 5 q9:=e9
 subst e9
 replace HS:=lH (HS.out.step h9)
 have T9:=lH (show TreeS w9 (.slice A9 5 q9) (keyN nm k) from t9)
 clear h9 t9 T8
 go_wp2_with fail
 refine c5.calls0 T9.out ?_
 intro w10 h10
 replace HS:=lH (HS.out.step h10)
 clear h10
 go_wp2_with fail
 go_ret2
 exact ⟨rfl,HS.out⟩
theorem renc_key (nm k:ByteArray) (h:rightB 6 nm = true) (h1:nm.size <= 1000) (h2:k.size <= 1000):RdT 21 (keyN nm k) (fun v => #[v]) (.tuple #[.string (bs (keyF nm k).enc),.int .i64 0]):=by
 have hk:=key_is nm k h
 have c4:=rrig_rd _ (small_key nm k h1 h2)
 rw [is_right hk] at c4
 have hl:=key_le nm k
 exact renc_yes _ _ c4 (bytes_root _ _ _ (wr_of hk) (by omega) hk.len)
theorem rencode_k (no:Int) (k:ByteArray) (hm:k.size <= 1000) (X:ByteArray) (E:Int) (hE:E = chkE no k) (hX:X = if E = 0 then derS no k else ⟨#[]⟩):Mak 7 #[.int .i64 no,.string k] (.tuple #[.string X,.int .i64 E]):=by
 subst hX
 subst hE
 have c1:=(rwidth_ret no _ rfl).mak
 by_cases h0:(rowOf no).2.1 = 0
 · rw [h0] at c1
   rw [show chkE no k = 8 from if_pos h0]
   exact renc_1 no k c1
 by_cases h1:(k.size:Int) = (rowOf no).2.1
 case neg =>
   rw [show chkE no k = 9 by unfold chkE; rw [if_neg h0,if_neg h1]]
   exact renc_2 no k _ (beq_eq_false_iff_ne.2 h0) (by simpa using h1) c1
 have c2:=rscalar_mak no k (by omega) _ rfl
 cases hq:scB (rowOf no) k.data.toList with
 | false =>
   rw [hq] at c2
   rw [show chkE no k = 10 by unfold chkE; rw [if_neg h0,if_pos h1,hq]; rfl]
   exact renc_3 no k _ (beq_eq_false_iff_ne.2 h0) (by simpa using h1) c1 c2
 | true =>
   rw [hq] at c2
   rw [show chkE no k = 0 by unfold chkE; rw [if_neg h0,if_pos h1,hq]; rfl]
   have hi:=chk_in no h0
   have hnm:=nm_size no
   exact renc_4 no k _ (beq_eq_false_iff_ne.2 h0) (by simpa using h1) c1 c2 (nmOf no) _ true (rarcs_k no _ rfl) (fun w v hv => Oid.rencode_yes w v _ hv (arcs_ok no hi) _ rfl) _ (renc_key (nmOf no) k (nm_right no hi) (by omega) hm)
end Sec
namespace Sec
open Tlv Tree Strs Curve
def szV:Value -> Nat | .string r => r.size | _ => 0
def zs1 (j:Nat):ByteArray:=bs (List.replicate j 0 ++ [1])
theorem zs1_size (j:Nat):(zs1 j).size = j + 1:=by unfold zs1; rw [size_bs,List.length_append,List.length_replicate]; rfl
theorem zs1_succ (j:Nat):(⟨#[0]⟩:ByteArray) ++ zs1 j = zs1 (j + 1):=by
 apply ba_ext
 unfold zs1
 rw [list_bs]
 show ((⟨#[0]⟩:ByteArray) ++ bs (List.replicate j 0 ++ [1])).data.toList = _
 simp [List.replicate_succ,list_bs]
theorem rsize_no (no:Int) (c1:Mak 15 #[.int .i64 no] (.int .i64 0)):Mak 11 #[.int .i64 no] (.int .i64 0):=by
 intro w
 have HS:=lH (Since.refl w)
 go_enter Tryz.func11,Tryz.ntmps11
 go_wp2_with fail
 refine c1.calls0 ?_
 intro w1 h1
 replace HS:=lH (HS.out.step h1)
 clear h1
 go_wp2_with fail
 go_ret
 exact ⟨rfl,HS.out⟩
set_option maxHeartbeats 4000000 in
theorem rsize_yes (no:Int) (n:Nat) (hn:n <= 1000) (hn0:0 < n) (c1:Mak 15 #[.int .i64 no] (.int .i64 (n:Int))) (X:ByteArray) (E:Int) (c2:Mak 7 #[.int .i64 no,.string (zs1 (n - 1))] (.tuple #[.string X,.int .i64 E])):Mak 11 #[.int .i64 no] (.int .i64 (X.size:Int)):=by
 intro w
 have HS:=lH (Since.refl w)
 have t1:((n:Int) == 0) = false:=beq_eq_false_iff_ne.2 (by omega)
 go_enter Tryz.func11,Tryz.ntmps11
 go_wp2_with fail
 refine c1.calls0 ?_
 intro w1 h1
 replace HS:=lH (HS.out.step h1)
 clear h1
 go_wp2_with fail
 go_loop [4] (fun V => ∃ (j:Nat) (Z:ByteArray),V = .string Z /\ j + 1 <= n /\ Hid (Z = zs1 j)) (fun V => n - szV V)
 case atStart => exact ⟨0,⟨#[1]⟩,rfl,by omega,lH rfl⟩
 case round =>
   obtain ⟨j,Z,rfl,hj,hZ⟩:=hrel
   have hsz:Z.size = j + 1:=by rw [hZ.out,zs1_size]
   have HSZ:=lH hsz
   by_cases hlt:j + 1 < n
   · have t2:decide ((Z.size:Int) < (n:Int)) = true:=decide_eq_true (by omega)
     have t3:decide (Z.size < n) = true:=decide_eq_true (by omega)
     have t4:¬ 9223372036854775807 < 1 + Z.size:=by omega
     have t5:Z.size <= 1000:=by omega
     have HZ2:=lH (show (⟨#[0]⟩:ByteArray) ++ Z = zs1 (j + 1) by rw [hZ.out,zs1_succ])
     clear hsz hZ
     go_wp2_with fail
     go_round
     case rel => exact ⟨j + 1,_,rfl,by omega,HZ2⟩
     case measure =>
       have h9:((⟨#[0]⟩:ByteArray) ++ Z).size = j + 2:=by rw [HZ2.out,zs1_size]
       simp only [szV]
       rw [h9,HSZ.out]
       omega
   · have t2:decide ((Z.size:Int) < (n:Int)) = false:=decide_eq_false (by omega)
     have t3:decide (Z.size < n) = false:=decide_eq_false (by omega)
     obtain rfl:Z = zs1 (n - 1):=by rw [hZ.out]; congr 1; omega
     clear hsz hZ HSZ
     go_wp2_with fail
     refine c2.calls0 ?_
     intro w2 h2
     replace HS:=lH (HS.out.step h2)
     clear h2
     go_wp2_with fail
     go_ret
     exact ⟨rfl,HS.out⟩
theorem chk_one (no:Int) (h:1 <= no /\ no <= 4):chkE no (zs1 ((rowOf no).2.1.toNat - 1)) = 0:=by
 have h4:no = 1 ∨ no = 2 ∨ no = 3 ∨ no = 4:=by omega
 rcases h4 with rfl | rfl | rfl | rfl <;> decide +kernel
theorem rsize_k (no:Int) (V:Int) (hV:V = sizI no):Mak 11 #[.int .i64 no] (.int .i64 V):=by
 subst hV
 have c1:=(rwidth_ret no _ rfl).mak
 unfold sizI
 by_cases h0:(rowOf no).2.1 = 0
 · rw [if_pos h0]
   rw [h0] at c1
   exact rsize_no no c1
 · rw [if_neg h0]
   have hw:=wid_le no
   obtain ⟨n,hn⟩:∃ n:Nat,n = (rowOf no).2.1.toNat:=⟨_,rfl⟩
   have hn2:(rowOf no).2.1 = (n:Int):=by omega
   have hi:=chk_in no h0
   have hk:=chk_one no hi
   rw [<- hn] at hk ⊢
   rw [hn2] at c1
   have c2:=rencode_k no (zs1 (n - 1)) (by rw [zs1_size]; omega) _ 0 hk.symm rfl
   have h9:=rsize_yes no n (by omega) (by omega) c1 _ _ c2
   rw [if_pos rfl] at h9
   unfold derS at h9
   rw [size_bs,key_len (nmOf no) (zs1 (n - 1)) (bs (List.replicate n 0)) (by rw [zs1_size,size_bs,List.length_replicate]; omega)] at h9
   exact h9
end Sec
namespace Sec
open Tlv Tree Strs Curve
theorem tag_is (x:Nd) (c t:Int):tagsB x.c x.t c [t] = (decide (x.c = c) && decide (x.t = t)):=by
 unfold tagsB
 rw [List.any_cons,List.any_nil,Bool.or_false]
 congr 1
theorem flat_first {p:F} (hs:single p):∃ y,(p.flat 0)[0]? = some y:=by
 cases p with
 | nil => exact absurd hs (by intro h; exact h)
 | prim c t d nx => exact ⟨_,rfl⟩
 | cons c t ks nx => exact ⟨_,rfl⟩
def IsKey (g:F):Prop:=∃ nm k,g = keyF nm k /\ rightB 6 nm = true
theorem proper_no {N:List Nd} {g:F} (hg:IsT rightB N g) (hs:Small N) (hn:¬ IsKey g):RdT 23 N (fun v => #[v]) (.bool false):=by
 obtain ⟨x0,hx0⟩:=flat_first hg.one
 rw [<- hg.flat] at hx0
 obtain ⟨Ns,h1,h2,h3⟩:=kids_mk hg hs x0 hx0
 by_cases hA:tagsB x0.c x0.t 0 [16] = true /\ Ns.length = 3
 case neg => exact proper_0 N x0 hx0 Ns h3 _ rfl (fun hq => by
   have h9:Ns.length ≠ 3:=fun h => hA ⟨hq,h⟩
   exact bne_iff_ne.2 (by omega))
 obtain ⟨a1,a2⟩:=hA
 cases g with
 | nil => exact absurd hg.one (by intro h; exact h)
 | prim c t d nx =>
   have e:=hg.flat
   rw [e] at hx0
   have:x0.k = []:=by
     have h9:(⟨c,t,false,d,[]⟩:Nd) = x0:=Option.some.inj hx0
     rw [<- h9]
   rw [this] at h1
   exact absurd h1 (by rw [a2]; decide)
 | cons c t ks nx =>
   cases (show nx = .nil from hg.one)
   have hP:=h2 c t ks rfl
   have hok:okF rightB ks:=hg.ok.2.2.2.1
   have e0:x0 = ⟨c,t,true,⟨#[]⟩,ks.tops 1⟩:=by
     have e:=hg.flat
     rw [e] at hx0
     exact (Option.some.inj hx0).symm
   rw [tag_is,Bool.and_eq_true,decide_eq_true_eq,decide_eq_true_eq,e0] at a1
   have ec:c = 0:=by have:=a1.1; dsimp only at this; omega
   have et:t = 16:=by have:=a1.2; dsimp only at this; omega
   subst ec
   subst et
   have hl:(parts ks).length = 3:=by rw [hP,List.length_map] at a2; exact a2
   obtain ⟨p0,p1,p2,hp⟩:∃ p0 p1 p2,parts ks = [p0,p1,p2]:=by
     match hq:parts ks,hl with
     | [a,b,c],_ => exact ⟨a,b,c,rfl⟩
   rw [hp] at hP
   obtain ⟨s0,o0,-⟩:=parts_at rightB ks 0 0 p0 hok (by rw [hp]; rfl)
   obtain ⟨s1,o1,-⟩:=parts_at rightB ks 0 1 p1 hok (by rw [hp]; rfl)
   obtain ⟨s2,o2,-⟩:=parts_at rightB ks 0 2 p2 hok (by rw [hp]; rfl)
   obtain ⟨y0,hy0⟩:=flat_first s0
   obtain ⟨y1,hy1⟩:=flat_first s1
   obtain ⟨y2,hy2⟩:=flat_first s2
   replace hP:Ns = [p0.flat 0,p1.flat 0,p2.flat 0]:=hP
   rw [hP] at h3
   have hq:true = tagsB x0.c x0.t 0 [16]:=by rw [tag_is,e0]; rfl
   cases q1:tagsB y0.c y0.t 0 [2] with
   | false => exact proper_1 N x0 hx0 _ _ _ y0 y1 y2 hy0 hy1 hy2 h3 one_mak hq q1.symm
   | true =>
   cases t1:(y0.d.toList == [1]) with
   | false => exact proper_2 N x0 hx0 _ _ _ y0 y1 y2 hy0 hy1 hy2 h3 one_mak hq q1.symm t1
   | true =>
   cases q2:tagsB y1.c y1.t 0 [4] with
   | false => exact proper_3 N x0 hx0 _ _ _ y0 y1 y2 hy0 hy1 hy2 h3 one_mak hq q1.symm t1 q2.symm
   | true =>
   cases q3:tagsB y2.c y2.t 2 [0] with
   | false => exact proper_4 N x0 hx0 _ _ _ y0 y1 y2 hy0 hy1 hy2 h3 one_mak hq q1.symm t1 q2.symm q3.symm
   | true =>
   by_cases h5:(p2.flat 0).length = 2
   case neg => exact proper_5 N x0 hx0 _ _ _ y0 y1 y2 hy0 hy1 hy2 h3 one_mak hq q1.symm t1 q2.symm q3.symm h5
   obtain ⟨y3,hy3⟩:∃ y,(p2.flat 0)[1]? = some y:=⟨_,List.getElem?_eq_getElem (by omega)⟩
   have c6:=proper_6 N x0 hx0 _ _ _ y0 y1 y2 hy0 hy1 hy2 h3 one_mak hq q1.symm t1 q2.symm q3.symm h5 y3 hy3 _ rfl
   cases q6:tagsB y3.c y3.t 0 [6] with
   | false => rw [q6] at c6; exact c6
   | true =>
     refine absurd ?_ hn
     obtain ⟨nm,k,h9,h8⟩:=key_back hok [p0,p1,p2] hp rfl p0 p1 p2 rfl rfl rfl (by rw [isB_some hy0,<- tag_is]; exact q1) (fun x hx => by
       rw [hy0] at hx
       cases hx
       have h7:=eq_of_beq t1
       rw [toList_d] at h7
       exact ba_ext h7) (by rw [isB_some hy1,<- tag_is]; exact q2) (by rw [isB_some hy2,<- tag_is]; exact q3) h5 (by rw [isB_some hy3,<- tag_is]; exact q6)
     exact ⟨nm,k,h9,h8⟩
theorem proper_yes (nm k:ByteArray) (h:rightB 6 nm = true) (hs:Small (keyN nm k)):RdT 23 (keyN nm k) (fun v => #[v]) (.bool true):=by
 obtain ⟨Ns,h1,h2,h3⟩:=kids_mk (key_is nm k h) hs ⟨0,16,true,⟨#[]⟩,[1,2,3]⟩ rfl
 have hP:Ns = [leafN 0 2 ⟨#[1]⟩,leafN 0 4 k,(F.cons 2 0 (.prim 0 6 nm .nil) .nil).flat 0]:=h2 0 16 _ rfl
 rw [hP] at h3
 exact proper_6 (keyN nm k) ⟨0,16,true,⟨#[]⟩,[1,2,3]⟩ rfl _ _ _ ⟨0,2,false,⟨#[1]⟩,[]⟩ ⟨0,4,false,k,[]⟩ ⟨2,0,true,⟨#[]⟩,[1]⟩ rfl rfl rfl h3 one_mak rfl rfl (by rw [toList_d]; rfl) rfl rfl rfl ⟨0,6,false,nm,[]⟩ rfl true rfl
def DecT (s:ByteArray) (C P:Int) (N:List Nd):Prop:=∀ w,Calls Tryz.prog 22 #[.string s] w fun e w' => ∃ tv,e = .returned (.tuple #[tv,.agg #[.int .i64 C,.int .i64 P]]) /\ TreeS w' tv N /\ Since w w'
set_option maxHeartbeats 4000000 in
theorem dec_err (s:ByteArray) (C P:Int) (hC:(C != 0) = true) (d1:DecT s C P []):KMk Tabs 8 #[.string s] (.tuple #[.int .i64 0,.string ⟨#[]⟩,.int .i64 C]):=by
 intro w hT
 have HT:=lH hT
 have HS:=lH (Since.refl w)
 clear hT
 go_enter Tryz.func8,Tryz.ntmps8
 go_wp2_with fail
 refine (d1 _).mono ?_
 rintro _ w1 ⟨u1,rfl,hU,h1⟩
 obtain ⟨A1,q1,e1,-,-⟩:=hU.slice
 subst e1
 replace HS:=lH (HS.out.step h1)
 have r1:(w1.alloc (.cells #[.int .i64 0,.int .i64 0] 44)).heap[w1.heap.size]? = some (.cells #[.int .i64 0,.int .i64 0] 44 (0,0)):=heap_alloc_new w1 _
 have hb:=lH (hb_row (K:=KT) (C':=#[.int .i64 C,.int .i64 P]) ((Since.refl w1).alloc _) (Nat.le_refl _) trivial r1)
 have y0:=hb.out.cell 0 _ rfl
 have y1:=hb.out.cell 1 _ rfl
 replace HS:=lH (HS.out.step hb.out.since)
 replace HT:=lH (Kp.keep (Kp.keep HT.out h1) hb.out.since)
 have HU:=lH (hU.since hb.out.since)
 clear hU h1
 go_wp2_with (refine wpList_store_row rfl 44 _ _ rfl w1.heap.size #[.int .i64 C,.int .i64 P] (by rfl) (by rfl) _ _ r1 (f2_info C P) rfl (f2_one C P) ?_)
 go_quiet (fail)
 replace HS:Hid (Since w _):=lH (HS.out.step (Att.belowN _ nq))
 go_wp2_with fail
 go_ret3
 exact ⟨rfl,HS.out⟩
set_option maxHeartbeats 4000000 in
theorem dec_form (s:ByteArray) (C P:Int) (hC:(C != 0) = false) (N:List Nd) (d1:DecT s C P N) (c1:RdT 23 N (fun v => #[v]) (.bool false)):KMk Tabs 8 #[.string s] (.tuple #[.int .i64 0,.string ⟨#[]⟩,.int .i64 5]):=by
 obtain ⟨n0,hn0⟩:∃ n,n = N.length:=⟨_,rfl⟩
 intro w hT
 have HT:=lH hT
 have HS:=lH (Since.refl w)
 clear hT
 go_enter Tryz.func8,Tryz.ntmps8
 go_wp2_with fail
 refine (d1 _).mono ?_
 rintro _ w1 ⟨u1,rfl,hU,h1⟩
 obtain ⟨A1,q1,e1,-,-⟩:=hU.slice
 subst e1
 replace HS:=lH (HS.out.step h1)
 have r1:(w1.alloc (.cells #[.int .i64 0,.int .i64 0] 44)).heap[w1.heap.size]? = some (.cells #[.int .i64 0,.int .i64 0] 44 (0,0)):=heap_alloc_new w1 _
 have hb:=lH (hb_row (K:=KT) (C':=#[.int .i64 C,.int .i64 P]) ((Since.refl w1).alloc _) (Nat.le_refl _) trivial r1)
 have y0:=hb.out.cell 0 _ rfl
 have y1:=hb.out.cell 1 _ rfl
 replace HS:=lH (HS.out.step hb.out.since)
 replace HT:=lH (Kp.keep (Kp.keep HT.out h1) hb.out.since)
 have HU:=lH (hU.since hb.out.since)
 clear hU h1
 rw [<- hn0] at HU ⊢
 clear hn0
 go_wp2_with (refine wpList_store_row rfl 44 _ _ rfl w1.heap.size #[.int .i64 C,.int .i64 P] (by rfl) (by rfl) _ _ r1 (f2_info C P) rfl (f2_one C P) ?_)
 clear y0 y1 r1 hb
 refine c1.calls0 HU.out ?_
 intro w2 h2
 replace HS:=lH (HS.out.step h2)
 clear h2
 go_wp2_with fail
 go_ret3
 exact ⟨rfl,HS.out⟩
set_option maxHeartbeats 4000000 in
theorem dec_key0 (s nm k:ByteArray) (C P:Int) (hC:(C != 0) = false) (d1:DecT s C P (keyN nm k)) (c1:RdT 23 (keyN nm k) (fun v => #[v]) (.bool true)) (xs:List Int) (qd:Bool) (c2:MkI 24 #[.string nm] xs qd) (n:Int) (qb:Bool) (c3:KRdI Tabs 25 xs (.tuple #[.int .i64 n,.bool qb])) (E:Int) (hE:(E != 0) = true) (c4:KMk Tabs 12 #[.int .i64 n,.string k] (.int .i64 E)):KMk Tabs 8 #[.string s] (.tuple #[.int .i64 0,.string ⟨#[]⟩,.int .i64 E]):=by
 intro w hT
 have HT:=lH hT
 have HS:=lH (Since.refl w)
 clear hT
 go_enter Tryz.func8,Tryz.ntmps8
 go_wp2_with fail
 refine (d1 _).mono ?_
 rintro _ w1 ⟨u1,rfl,hU,h1⟩
 obtain ⟨A1,q1,e1,-,-⟩:=hU.slice
 subst e1
 replace HS:=lH (HS.out.step h1)
 have r1:(w1.alloc (.cells #[.int .i64 0,.int .i64 0] 44)).heap[w1.heap.size]? = some (.cells #[.int .i64 0,.int .i64 0] 44 (0,0)):=heap_alloc_new w1 _
 have hb:=lH (hb_row (K:=KT) (C':=#[.int .i64 C,.int .i64 P]) ((Since.refl w1).alloc _) (Nat.le_refl _) trivial r1)
 have y0:=hb.out.cell 0 _ rfl
 have y1:=hb.out.cell 1 _ rfl
 replace HS:=lH (HS.out.step hb.out.since)
 replace HT:=lH (Kp.keep (Kp.keep HT.out h1) hb.out.since)
 have HU:=lH (hU.since hb.out.since)
 clear hU h1
 obtain ⟨b,o,cc,e2,-,-,l3,l4⟩:=HU.out.form (by show 0 < 5; omega)
 obtain ⟨kv2,-,-,-,g2,-⟩:=l4 2 ⟨0,4,false,k,[]⟩ rfl
 obtain ⟨kv4,-,-,-,g4,-⟩:=l4 4 ⟨0,6,false,nm,[]⟩ rfl
 obtain ⟨e3,-,e4⟩:=Value.slice.inj e2
 subst e3
 subst e4
 have GG:=lH (And.intro l3 (And.intro g2 g4))
 clear e2 l3 l4 g2 g4
 rw [show (keyN nm k).length = 5 from rfl] at HU ⊢
 go_wp2_with (refine wpList_store_row rfl 44 _ _ rfl w1.heap.size #[.int .i64 C,.int .i64 P] (by rfl) (by rfl) _ _ r1 (f2_info C P) rfl (f2_one C P) ?_)
 clear y0 y1 r1 hb
 refine c1.calls0 HU.out ?_
 intro w2 h2
 replace HS:=lH (HS.out.step h2)
 replace HT:=lH (Kp.keep HT.out h2)
 obtain ⟨l3,g2,g4⟩:=GG.out
 replace g2:=(Below.cell h2 (p:=⟨b,o + 2 * 5 + 3,none⟩) l3).trans g2
 replace g4:=(Below.cell h2 (p:=⟨b,o + 4 * 5 + 3,none⟩) l3).trans g4
 rw [show o + 2 * 5 + 3 = o + 10 + 3 by omega] at g2
 rw [show o + 4 * 5 + 3 = o + 20 + 3 by omega] at g4
 clear h2 GG HU
 go_wp2_with fail
 go_quiet (fail)
 replace HS:Hid (Since w (w2.drewN nq)):=lH (HS.out.step (Att.belowN w2 nq))
 replace HT:Hid (Tabs (w2.drewN nq)):=lH (Kp.keep HT.out (Att.belowN w2 nq))
 clear g2 g4
 go_wp2_with fail
 refine (c2 _).mono ?_
 rintro _ w3 ⟨v3,rfl,hv3,h3⟩
 obtain ⟨A3,q3,e3,-,-⟩:=hv3.slice
 subst e3
 replace HS:=lH (HS.out.step h3)
 replace HT:=lH (Kp.keep HT.out h3)
 have HI:=lH hv3
 clear h3 hv3
 go_wp2_with fail
 refine c3.calls0 HI.out HT.out ?_
 intro w4 h4
 replace HS:=lH (HS.out.step h4)
 replace HT:=lH (Kp.keep HT.out h4)
 clear h4 HI
 go_wp2_with fail
 refine c4.calls0 HT.out ?_
 intro w5 h5
 replace HS:=lH (HS.out.step h5)
 clear h5
 go_wp2_with fail
 go_ret3
 exact ⟨rfl,HS.out⟩
set_option maxHeartbeats 4000000 in
theorem dec_key1 (s nm k:ByteArray) (C P:Int) (hC:(C != 0) = false) (d1:DecT s C P (keyN nm k)) (c1:RdT 23 (keyN nm k) (fun v => #[v]) (.bool true)) (xs:List Int) (qd:Bool) (c2:MkI 24 #[.string nm] xs qd) (n:Int) (qb:Bool) (c3:KRdI Tabs 25 xs (.tuple #[.int .i64 n,.bool qb])) (E:Int) (hE:(E != 0) = false) (c4:KMk Tabs 12 #[.int .i64 n,.string k] (.int .i64 E)):KMk Tabs 8 #[.string s] (.tuple #[.int .i64 n,.string k,.int .i64 0]):=by
 intro w hT
 have HT:=lH hT
 have HS:=lH (Since.refl w)
 clear hT
 go_enter Tryz.func8,Tryz.ntmps8
 go_wp2_with fail
 refine (d1 _).mono ?_
 rintro _ w1 ⟨u1,rfl,hU,h1⟩
 obtain ⟨A1,q1,e1,-,-⟩:=hU.slice
 subst e1
 replace HS:=lH (HS.out.step h1)
 have r1:(w1.alloc (.cells #[.int .i64 0,.int .i64 0] 44)).heap[w1.heap.size]? = some (.cells #[.int .i64 0,.int .i64 0] 44 (0,0)):=heap_alloc_new w1 _
 have hb:=lH (hb_row (K:=KT) (C':=#[.int .i64 C,.int .i64 P]) ((Since.refl w1).alloc _) (Nat.le_refl _) trivial r1)
 have y0:=hb.out.cell 0 _ rfl
 have y1:=hb.out.cell 1 _ rfl
 replace HS:=lH (HS.out.step hb.out.since)
 replace HT:=lH (Kp.keep (Kp.keep HT.out h1) hb.out.since)
 have HU:=lH (hU.since hb.out.since)
 clear hU h1
 obtain ⟨b,o,cc,e2,-,-,l3,l4⟩:=HU.out.form (by show 0 < 5; omega)
 obtain ⟨kv2,-,-,-,g2,-⟩:=l4 2 ⟨0,4,false,k,[]⟩ rfl
 obtain ⟨kv4,-,-,-,g4,-⟩:=l4 4 ⟨0,6,false,nm,[]⟩ rfl
 obtain ⟨e3,-,e4⟩:=Value.slice.inj e2
 subst e3
 subst e4
 have GG:=lH (And.intro l3 (And.intro g2 g4))
 clear e2 l3 l4 g2 g4
 rw [show (keyN nm k).length = 5 from rfl] at HU ⊢
 go_wp2_with (refine wpList_store_row rfl 44 _ _ rfl w1.heap.size #[.int .i64 C,.int .i64 P] (by rfl) (by rfl) _ _ r1 (f2_info C P) rfl (f2_one C P) ?_)
 clear y0 y1 r1 hb
 refine c1.calls0 HU.out ?_
 intro w2 h2
 replace HS:=lH (HS.out.step h2)
 replace HT:=lH (Kp.keep HT.out h2)
 obtain ⟨l3,g2,g4⟩:=GG.out
 replace g2:=(Below.cell h2 (p:=⟨b,o + 2 * 5 + 3,none⟩) l3).trans g2
 replace g4:=(Below.cell h2 (p:=⟨b,o + 4 * 5 + 3,none⟩) l3).trans g4
 rw [show o + 2 * 5 + 3 = o + 10 + 3 by omega] at g2
 rw [show o + 4 * 5 + 3 = o + 20 + 3 by omega] at g4
 clear h2 GG HU
 go_wp2_with fail
 go_quiet (fail)
 replace HS:Hid (Since w (w2.drewN nq)):=lH (HS.out.step (Att.belowN w2 nq))
 replace HT:Hid (Tabs (w2.drewN nq)):=lH (Kp.keep HT.out (Att.belowN w2 nq))
 clear g2 g4
 go_wp2_with fail
 refine (c2 _).mono ?_
 rintro _ w3 ⟨v3,rfl,hv3,h3⟩
 obtain ⟨A3,q3,e3,-,-⟩:=hv3.slice
 subst e3
 replace HS:=lH (HS.out.step h3)
 replace HT:=lH (Kp.keep HT.out h3)
 have HI:=lH hv3
 clear h3 hv3
 go_wp2_with fail
 refine c3.calls0 HI.out HT.out ?_
 intro w4 h4
 replace HS:=lH (HS.out.step h4)
 replace HT:=lH (Kp.keep HT.out h4)
 clear h4 HI
 go_wp2_with fail
 refine c4.calls0 HT.out ?_
 intro w5 h5
 replace HS:=lH (HS.out.step h5)
 clear h5
 go_wp2_with fail
 go_ret3
 exact ⟨rfl,HS.out⟩
end Sec
namespace Sec
open Tlv Tree Strs Curve
def RDecT (s:ByteArray) (C P:Int) (N:List Nd):Prop:=∀ w,Calls Tryz.prog 26 #[.string s] w fun e w' => ∃ tv,e = .returned (.tuple #[tv,.agg #[.int .i64 C,.int .i64 P]]) /\ TreeS w' tv N /\ Since w w'
set_option maxHeartbeats 4000000 in
theorem rdec_err (s:ByteArray) (C P:Int) (hC:(C != 0) = true) (d1:RDecT s C P []):Mak 9 #[.string s] (.tuple #[.int .i64 0,.string ⟨#[]⟩,.int .i64 C]):=by
 intro w
 have HS:=lH (Since.refl w)
 go_enter Tryz.func9,Tryz.ntmps9
 go_wp2_with fail
 refine (d1 _).mono ?_
 rintro _ w1 ⟨u1,rfl,hU,h1⟩
 obtain ⟨A1,q1,e1,-,-⟩:=hU.slice
 subst e1
 replace HS:=lH (HS.out.step h1)
 have r1:(w1.alloc (.cells #[.int .i64 0,.int .i64 0] 44)).heap[w1.heap.size]? = some (.cells #[.int .i64 0,.int .i64 0] 44 (0,0)):=heap_alloc_new w1 _
 have hb:=lH (hb_row (K:=KT) (C':=#[.int .i64 C,.int .i64 P]) ((Since.refl w1).alloc _) (Nat.le_refl _) trivial r1)
 have y0:=hb.out.cell 0 _ rfl
 have y1:=hb.out.cell 1 _ rfl
 replace HS:=lH (HS.out.step hb.out.since)
 have HU:=lH (hU.since hb.out.since)
 clear hU h1
 go_wp2_with (refine wpList_store_row rfl 44 _ _ rfl w1.heap.size #[.int .i64 C,.int .i64 P] (by rfl) (by rfl) _ _ r1 (f2_info C P) rfl (f2_one C P) ?_)
 go_quiet (fail)
 replace HS:Hid (Since w _):=lH (HS.out.step (Att.belowN _ nq))
 go_wp2_with fail
 go_ret3
 exact ⟨rfl,HS.out⟩
set_option maxHeartbeats 4000000 in
theorem rdec_len (s:ByteArray) (C P:Int) (hC:(C != 0) = false) (N:List Nd) (d1:RDecT s C P N) (h5:((N.length:Int) != 5) = true):Mak 9 #[.string s] (.tuple #[.int .i64 0,.string ⟨#[]⟩,.int .i64 5]):=by
 intro w
 have HS:=lH (Since.refl w)
 go_enter Tryz.func9,Tryz.ntmps9
 go_wp2_with fail
 refine (d1 _).mono ?_
 rintro _ w1 ⟨u1,rfl,hU,h1⟩
 obtain ⟨A1,q1,e1,-,-⟩:=hU.slice
 subst e1
 replace HS:=lH (HS.out.step h1)
 have r1:(w1.alloc (.cells #[.int .i64 0,.int .i64 0] 44)).heap[w1.heap.size]? = some (.cells #[.int .i64 0,.int .i64 0] 44 (0,0)):=heap_alloc_new w1 _
 have hb:=lH (hb_row (K:=KT) (C':=#[.int .i64 C,.int .i64 P]) ((Since.refl w1).alloc _) (Nat.le_refl _) trivial r1)
 have y0:=hb.out.cell 0 _ rfl
 have y1:=hb.out.cell 1 _ rfl
 replace HS:=lH (HS.out.step hb.out.since)
 have HU:=lH (hU.since hb.out.since)
 clear hU h1
 go_wp2_with (refine wpList_store_row rfl 44 _ _ rfl w1.heap.size #[.int .i64 C,.int .i64 P] (by rfl) (by rfl) _ _ r1 (f2_info C P) rfl (f2_one C P) ?_)
 go_ret3
 exact ⟨rfl,HS.out⟩
set_option maxHeartbeats 4000000 in
theorem rdec_0 (s:ByteArray) (C P:Int) (hC:(C != 0) = false) (x0 x1 x2 x3 x4:Nd) (d1:RDecT s C P [x0,x1,x2,x3,x4]) (g0:((x0.k.length:Int) != 3) = true):Mak 9 #[.string s] (.tuple #[.int .i64 0,.string ⟨#[]⟩,.int .i64 5]):=by
 intro w
 have HS:=lH (Since.refl w)
 go_enter Tryz.func9,Tryz.ntmps9
 go_wp2_with fail
 refine (d1 _).mono ?_
 rintro _ w1 ⟨u1,rfl,hU,h1⟩
 obtain ⟨A1,q1,e1,-,-⟩:=hU.slice
 subst e1
 replace HS:=lH (HS.out.step h1)
 have r1:(w1.alloc (.cells #[.int .i64 0,.int .i64 0] 44)).heap[w1.heap.size]? = some (.cells #[.int .i64 0,.int .i64 0] 44 (0,0)):=heap_alloc_new w1 _
 have hb:=lH (hb_row (K:=KT) (C':=#[.int .i64 C,.int .i64 P]) ((Since.refl w1).alloc _) (Nat.le_refl _) trivial r1)
 have y0:=hb.out.cell 0 _ rfl
 have y1:=hb.out.cell 1 _ rfl
 replace HS:=lH (HS.out.step hb.out.since)
 have HU:=lH (hU.since hb.out.since)
 clear hU h1
 obtain ⟨b,o,cc,e2,-,-,l3,l4⟩:=HU.out.form (by show 0 < 5; omega)
 obtain ⟨e3,-,e4⟩:=Value.slice.inj e2
 subst e3
 subst e4
 obtain ⟨v0,a0,a1,-,-,a4,i0⟩:=l4 0 x0 rfl
 obtain ⟨v1,b0,b1,-,b3,-,-⟩:=l4 1 x1 rfl
 obtain ⟨v2,c0,c1,-,c3,-,-⟩:=l4 2 x2 rfl
 obtain ⟨v3,e0,e1,-,-,e4,i3⟩:=l4 3 x3 rfl
 obtain ⟨v4,f0,f1,-,f3,-,-⟩:=l4 4 x4 rfl
 obtain ⟨A0,q0,rfl,-,-⟩:=i0.slice
 obtain ⟨A3,q3,rfl,-,-⟩:=i3.slice
 simp only [Nat.zero_mul,Nat.one_mul,Nat.reduceMul,Nat.add_zero] at a0 a1 a4 b0 b1 b3 c0 c1 c3 e0 e1 e4 f0 f1 f3
 have GG:=lH (And.intro l3 c3)
 clear e2 l3 l4 i0 i3
 rw [show [x0,x1,x2,x3,x4].length = 5 from rfl] at HU ⊢
 go_wp2_with (refine wpList_store_row rfl 44 _ _ rfl w1.heap.size #[.int .i64 C,.int .i64 P] (by rfl) (by rfl) _ _ r1 (f2_info C P) rfl (f2_one C P) ?_)
 go_ret3
 exact ⟨rfl,HS.out⟩
set_option maxHeartbeats 4000000 in
theorem rdec_1 (s:ByteArray) (C P:Int) (hC:(C != 0) = false) (x0 x1 x2 x3 x4:Nd) (d1:RDecT s C P [x0,x1,x2,x3,x4]) (g0:((x0.k.length:Int) != 3) = false) (g1:(x0.c != 0) = true):Mak 9 #[.string s] (.tuple #[.int .i64 0,.string ⟨#[]⟩,.int .i64 5]):=by
 intro w
 have HS:=lH (Since.refl w)
 go_enter Tryz.func9,Tryz.ntmps9
 go_wp2_with fail
 refine (d1 _).mono ?_
 rintro _ w1 ⟨u1,rfl,hU,h1⟩
 obtain ⟨A1,q1,e1,-,-⟩:=hU.slice
 subst e1
 replace HS:=lH (HS.out.step h1)
 have r1:(w1.alloc (.cells #[.int .i64 0,.int .i64 0] 44)).heap[w1.heap.size]? = some (.cells #[.int .i64 0,.int .i64 0] 44 (0,0)):=heap_alloc_new w1 _
 have hb:=lH (hb_row (K:=KT) (C':=#[.int .i64 C,.int .i64 P]) ((Since.refl w1).alloc _) (Nat.le_refl _) trivial r1)
 have y0:=hb.out.cell 0 _ rfl
 have y1:=hb.out.cell 1 _ rfl
 replace HS:=lH (HS.out.step hb.out.since)
 have HU:=lH (hU.since hb.out.since)
 clear hU h1
 obtain ⟨b,o,cc,e2,-,-,l3,l4⟩:=HU.out.form (by show 0 < 5; omega)
 obtain ⟨e3,-,e4⟩:=Value.slice.inj e2
 subst e3
 subst e4
 obtain ⟨v0,a0,a1,-,-,a4,i0⟩:=l4 0 x0 rfl
 obtain ⟨v1,b0,b1,-,b3,-,-⟩:=l4 1 x1 rfl
 obtain ⟨v2,c0,c1,-,c3,-,-⟩:=l4 2 x2 rfl
 obtain ⟨v3,e0,e1,-,-,e4,i3⟩:=l4 3 x3 rfl
 obtain ⟨v4,f0,f1,-,f3,-,-⟩:=l4 4 x4 rfl
 obtain ⟨A0,q0,rfl,-,-⟩:=i0.slice
 obtain ⟨A3,q3,rfl,-,-⟩:=i3.slice
 simp only [Nat.zero_mul,Nat.one_mul,Nat.reduceMul,Nat.add_zero] at a0 a1 a4 b0 b1 b3 c0 c1 c3 e0 e1 e4 f0 f1 f3
 have GG:=lH (And.intro l3 c3)
 clear e2 l3 l4 i0 i3
 rw [show [x0,x1,x2,x3,x4].length = 5 from rfl] at HU ⊢
 go_wp2_with (refine wpList_store_row rfl 44 _ _ rfl w1.heap.size #[.int .i64 C,.int .i64 P] (by rfl) (by rfl) _ _ r1 (f2_info C P) rfl (f2_one C P) ?_)
 go_ret3
 exact ⟨rfl,HS.out⟩
set_option maxHeartbeats 4000000 in
theorem rdec_2 (s:ByteArray) (C P:Int) (hC:(C != 0) = false) (x0 x1 x2 x3 x4:Nd) (d1:RDecT s C P [x0,x1,x2,x3,x4]) (g0:((x0.k.length:Int) != 3) = false) (g1:(x0.c != 0) = false) (g2:(x0.t != 16) = true):Mak 9 #[.string s] (.tuple #[.int .i64 0,.string ⟨#[]⟩,.int .i64 5]):=by
 intro w
 have HS:=lH (Since.refl w)
 go_enter Tryz.func9,Tryz.ntmps9
 go_wp2_with fail
 refine (d1 _).mono ?_
 rintro _ w1 ⟨u1,rfl,hU,h1⟩
 obtain ⟨A1,q1,e1,-,-⟩:=hU.slice
 subst e1
 replace HS:=lH (HS.out.step h1)
 have r1:(w1.alloc (.cells #[.int .i64 0,.int .i64 0] 44)).heap[w1.heap.size]? = some (.cells #[.int .i64 0,.int .i64 0] 44 (0,0)):=heap_alloc_new w1 _
 have hb:=lH (hb_row (K:=KT) (C':=#[.int .i64 C,.int .i64 P]) ((Since.refl w1).alloc _) (Nat.le_refl _) trivial r1)
 have y0:=hb.out.cell 0 _ rfl
 have y1:=hb.out.cell 1 _ rfl
 replace HS:=lH (HS.out.step hb.out.since)
 have HU:=lH (hU.since hb.out.since)
 clear hU h1
 obtain ⟨b,o,cc,e2,-,-,l3,l4⟩:=HU.out.form (by show 0 < 5; omega)
 obtain ⟨e3,-,e4⟩:=Value.slice.inj e2
 subst e3
 subst e4
 obtain ⟨v0,a0,a1,-,-,a4,i0⟩:=l4 0 x0 rfl
 obtain ⟨v1,b0,b1,-,b3,-,-⟩:=l4 1 x1 rfl
 obtain ⟨v2,c0,c1,-,c3,-,-⟩:=l4 2 x2 rfl
 obtain ⟨v3,e0,e1,-,-,e4,i3⟩:=l4 3 x3 rfl
 obtain ⟨v4,f0,f1,-,f3,-,-⟩:=l4 4 x4 rfl
 obtain ⟨A0,q0,rfl,-,-⟩:=i0.slice
 obtain ⟨A3,q3,rfl,-,-⟩:=i3.slice
 simp only [Nat.zero_mul,Nat.one_mul,Nat.reduceMul,Nat.add_zero] at a0 a1 a4 b0 b1 b3 c0 c1 c3 e0 e1 e4 f0 f1 f3
 have GG:=lH (And.intro l3 c3)
 clear e2 l3 l4 i0 i3
 rw [show [x0,x1,x2,x3,x4].length = 5 from rfl] at HU ⊢
 go_wp2_with (refine wpList_store_row rfl 44 _ _ rfl w1.heap.size #[.int .i64 C,.int .i64 P] (by rfl) (by rfl) _ _ r1 (f2_info C P) rfl (f2_one C P) ?_)
 go_ret3
 exact ⟨rfl,HS.out⟩
set_option maxHeartbeats 4000000 in
theorem rdec_3 (s:ByteArray) (C P:Int) (hC:(C != 0) = false) (x0 x1 x2 x3 x4:Nd) (d1:RDecT s C P [x0,x1,x2,x3,x4]) (g0:((x0.k.length:Int) != 3) = false) (g1:(x0.c != 0) = false) (g2:(x0.t != 16) = false) (g3:(x1.c != 0) = true):Mak 9 #[.string s] (.tuple #[.int .i64 0,.string ⟨#[]⟩,.int .i64 5]):=by
 intro w
 have HS:=lH (Since.refl w)
 go_enter Tryz.func9,Tryz.ntmps9
 go_wp2_with fail
 refine (d1 _).mono ?_
 rintro _ w1 ⟨u1,rfl,hU,h1⟩
 obtain ⟨A1,q1,e1,-,-⟩:=hU.slice
 subst e1
 replace HS:=lH (HS.out.step h1)
 have r1:(w1.alloc (.cells #[.int .i64 0,.int .i64 0] 44)).heap[w1.heap.size]? = some (.cells #[.int .i64 0,.int .i64 0] 44 (0,0)):=heap_alloc_new w1 _
 have hb:=lH (hb_row (K:=KT) (C':=#[.int .i64 C,.int .i64 P]) ((Since.refl w1).alloc _) (Nat.le_refl _) trivial r1)
 have y0:=hb.out.cell 0 _ rfl
 have y1:=hb.out.cell 1 _ rfl
 replace HS:=lH (HS.out.step hb.out.since)
 have HU:=lH (hU.since hb.out.since)
 clear hU h1
 obtain ⟨b,o,cc,e2,-,-,l3,l4⟩:=HU.out.form (by show 0 < 5; omega)
 obtain ⟨e3,-,e4⟩:=Value.slice.inj e2
 subst e3
 subst e4
 obtain ⟨v0,a0,a1,-,-,a4,i0⟩:=l4 0 x0 rfl
 obtain ⟨v1,b0,b1,-,b3,-,-⟩:=l4 1 x1 rfl
 obtain ⟨v2,c0,c1,-,c3,-,-⟩:=l4 2 x2 rfl
 obtain ⟨v3,e0,e1,-,-,e4,i3⟩:=l4 3 x3 rfl
 obtain ⟨v4,f0,f1,-,f3,-,-⟩:=l4 4 x4 rfl
 obtain ⟨A0,q0,rfl,-,-⟩:=i0.slice
 obtain ⟨A3,q3,rfl,-,-⟩:=i3.slice
 simp only [Nat.zero_mul,Nat.one_mul,Nat.reduceMul,Nat.add_zero] at a0 a1 a4 b0 b1 b3 c0 c1 c3 e0 e1 e4 f0 f1 f3
 have GG:=lH (And.intro l3 c3)
 clear e2 l3 l4 i0 i3
 rw [show [x0,x1,x2,x3,x4].length = 5 from rfl] at HU ⊢
 go_wp2_with (refine wpList_store_row rfl 44 _ _ rfl w1.heap.size #[.int .i64 C,.int .i64 P] (by rfl) (by rfl) _ _ r1 (f2_info C P) rfl (f2_one C P) ?_)
 go_ret3
 exact ⟨rfl,HS.out⟩
set_option maxHeartbeats 4000000 in
theorem rdec_4 (s:ByteArray) (C P:Int) (hC:(C != 0) = false) (x0 x1 x2 x3 x4:Nd) (d1:RDecT s C P [x0,x1,x2,x3,x4]) (g0:((x0.k.length:Int) != 3) = false) (g1:(x0.c != 0) = false) (g2:(x0.t != 16) = false) (g3:(x1.c != 0) = false) (g4:(x1.t != 2) = true):Mak 9 #[.string s] (.tuple #[.int .i64 0,.string ⟨#[]⟩,.int .i64 5]):=by
 intro w
 have HS:=lH (Since.refl w)
 go_enter Tryz.func9,Tryz.ntmps9
 go_wp2_with fail
 refine (d1 _).mono ?_
 rintro _ w1 ⟨u1,rfl,hU,h1⟩
 obtain ⟨A1,q1,e1,-,-⟩:=hU.slice
 subst e1
 replace HS:=lH (HS.out.step h1)
 have r1:(w1.alloc (.cells #[.int .i64 0,.int .i64 0] 44)).heap[w1.heap.size]? = some (.cells #[.int .i64 0,.int .i64 0] 44 (0,0)):=heap_alloc_new w1 _
 have hb:=lH (hb_row (K:=KT) (C':=#[.int .i64 C,.int .i64 P]) ((Since.refl w1).alloc _) (Nat.le_refl _) trivial r1)
 have y0:=hb.out.cell 0 _ rfl
 have y1:=hb.out.cell 1 _ rfl
 replace HS:=lH (HS.out.step hb.out.since)
 have HU:=lH (hU.since hb.out.since)
 clear hU h1
 obtain ⟨b,o,cc,e2,-,-,l3,l4⟩:=HU.out.form (by show 0 < 5; omega)
 obtain ⟨e3,-,e4⟩:=Value.slice.inj e2
 subst e3
 subst e4
 obtain ⟨v0,a0,a1,-,-,a4,i0⟩:=l4 0 x0 rfl
 obtain ⟨v1,b0,b1,-,b3,-,-⟩:=l4 1 x1 rfl
 obtain ⟨v2,c0,c1,-,c3,-,-⟩:=l4 2 x2 rfl
 obtain ⟨v3,e0,e1,-,-,e4,i3⟩:=l4 3 x3 rfl
 obtain ⟨v4,f0,f1,-,f3,-,-⟩:=l4 4 x4 rfl
 obtain ⟨A0,q0,rfl,-,-⟩:=i0.slice
 obtain ⟨A3,q3,rfl,-,-⟩:=i3.slice
 simp only [Nat.zero_mul,Nat.one_mul,Nat.reduceMul,Nat.add_zero] at a0 a1 a4 b0 b1 b3 c0 c1 c3 e0 e1 e4 f0 f1 f3
 have GG:=lH (And.intro l3 c3)
 clear e2 l3 l4 i0 i3
 rw [show [x0,x1,x2,x3,x4].length = 5 from rfl] at HU ⊢
 go_wp2_with (refine wpList_store_row rfl 44 _ _ rfl w1.heap.size #[.int .i64 C,.int .i64 P] (by rfl) (by rfl) _ _ r1 (f2_info C P) rfl (f2_one C P) ?_)
 go_ret3
 exact ⟨rfl,HS.out⟩
set_option maxHeartbeats 4000000 in
theorem rdec_5 (s:ByteArray) (C P:Int) (hC:(C != 0) = false) (x0 x1 x2 x3 x4:Nd) (d1:RDecT s C P [x0,x1,x2,x3,x4]) (g0:((x0.k.length:Int) != 3) = false) (g1:(x0.c != 0) = false) (g2:(x0.t != 16) = false) (g3:(x1.c != 0) = false) (g4:(x1.t != 2) = false) (g5:(!(x1.d.toList == [1])) = true):Mak 9 #[.string s] (.tuple #[.int .i64 0,.string ⟨#[]⟩,.int .i64 5]):=by
 intro w
 have HS:=lH (Since.refl w)
 go_enter Tryz.func9,Tryz.ntmps9
 go_wp2_with fail
 refine (d1 _).mono ?_
 rintro _ w1 ⟨u1,rfl,hU,h1⟩
 obtain ⟨A1,q1,e1,-,-⟩:=hU.slice
 subst e1
 replace HS:=lH (HS.out.step h1)
 have r1:(w1.alloc (.cells #[.int .i64 0,.int .i64 0] 44)).heap[w1.heap.size]? = some (.cells #[.int .i64 0,.int .i64 0] 44 (0,0)):=heap_alloc_new w1 _
 have hb:=lH (hb_row (K:=KT) (C':=#[.int .i64 C,.int .i64 P]) ((Since.refl w1).alloc _) (Nat.le_refl _) trivial r1)
 have y0:=hb.out.cell 0 _ rfl
 have y1:=hb.out.cell 1 _ rfl
 replace HS:=lH (HS.out.step hb.out.since)
 have HU:=lH (hU.since hb.out.since)
 clear hU h1
 obtain ⟨b,o,cc,e2,-,-,l3,l4⟩:=HU.out.form (by show 0 < 5; omega)
 obtain ⟨e3,-,e4⟩:=Value.slice.inj e2
 subst e3
 subst e4
 obtain ⟨v0,a0,a1,-,-,a4,i0⟩:=l4 0 x0 rfl
 obtain ⟨v1,b0,b1,-,b3,-,-⟩:=l4 1 x1 rfl
 obtain ⟨v2,c0,c1,-,c3,-,-⟩:=l4 2 x2 rfl
 obtain ⟨v3,e0,e1,-,-,e4,i3⟩:=l4 3 x3 rfl
 obtain ⟨v4,f0,f1,-,f3,-,-⟩:=l4 4 x4 rfl
 obtain ⟨A0,q0,rfl,-,-⟩:=i0.slice
 obtain ⟨A3,q3,rfl,-,-⟩:=i3.slice
 simp only [Nat.zero_mul,Nat.one_mul,Nat.reduceMul,Nat.add_zero] at a0 a1 a4 b0 b1 b3 c0 c1 c3 e0 e1 e4 f0 f1 f3
 have GG:=lH (And.intro l3 c3)
 clear e2 l3 l4 i0 i3
 rw [show [x0,x1,x2,x3,x4].length = 5 from rfl] at HU ⊢
 go_wp2_with (refine wpList_store_row rfl 44 _ _ rfl w1.heap.size #[.int .i64 C,.int .i64 P] (by rfl) (by rfl) _ _ r1 (f2_info C P) rfl (f2_one C P) ?_)
 go_ret3
 exact ⟨rfl,HS.out⟩
set_option maxHeartbeats 4000000 in
theorem rdec_6 (s:ByteArray) (C P:Int) (hC:(C != 0) = false) (x0 x1 x2 x3 x4:Nd) (d1:RDecT s C P [x0,x1,x2,x3,x4]) (g0:((x0.k.length:Int) != 3) = false) (g1:(x0.c != 0) = false) (g2:(x0.t != 16) = false) (g3:(x1.c != 0) = false) (g4:(x1.t != 2) = false) (g5:(!(x1.d.toList == [1])) = false) (g6:(x2.c != 0) = true):Mak 9 #[.string s] (.tuple #[.int .i64 0,.string ⟨#[]⟩,.int .i64 5]):=by
 intro w
 have HS:=lH (Since.refl w)
 go_enter Tryz.func9,Tryz.ntmps9
 go_wp2_with fail
 refine (d1 _).mono ?_
 rintro _ w1 ⟨u1,rfl,hU,h1⟩
 obtain ⟨A1,q1,e1,-,-⟩:=hU.slice
 subst e1
 replace HS:=lH (HS.out.step h1)
 have r1:(w1.alloc (.cells #[.int .i64 0,.int .i64 0] 44)).heap[w1.heap.size]? = some (.cells #[.int .i64 0,.int .i64 0] 44 (0,0)):=heap_alloc_new w1 _
 have hb:=lH (hb_row (K:=KT) (C':=#[.int .i64 C,.int .i64 P]) ((Since.refl w1).alloc _) (Nat.le_refl _) trivial r1)
 have y0:=hb.out.cell 0 _ rfl
 have y1:=hb.out.cell 1 _ rfl
 replace HS:=lH (HS.out.step hb.out.since)
 have HU:=lH (hU.since hb.out.since)
 clear hU h1
 obtain ⟨b,o,cc,e2,-,-,l3,l4⟩:=HU.out.form (by show 0 < 5; omega)
 obtain ⟨e3,-,e4⟩:=Value.slice.inj e2
 subst e3
 subst e4
 obtain ⟨v0,a0,a1,-,-,a4,i0⟩:=l4 0 x0 rfl
 obtain ⟨v1,b0,b1,-,b3,-,-⟩:=l4 1 x1 rfl
 obtain ⟨v2,c0,c1,-,c3,-,-⟩:=l4 2 x2 rfl
 obtain ⟨v3,e0,e1,-,-,e4,i3⟩:=l4 3 x3 rfl
 obtain ⟨v4,f0,f1,-,f3,-,-⟩:=l4 4 x4 rfl
 obtain ⟨A0,q0,rfl,-,-⟩:=i0.slice
 obtain ⟨A3,q3,rfl,-,-⟩:=i3.slice
 simp only [Nat.zero_mul,Nat.one_mul,Nat.reduceMul,Nat.add_zero] at a0 a1 a4 b0 b1 b3 c0 c1 c3 e0 e1 e4 f0 f1 f3
 have GG:=lH (And.intro l3 c3)
 clear e2 l3 l4 i0 i3
 rw [show [x0,x1,x2,x3,x4].length = 5 from rfl] at HU ⊢
 go_wp2_with (refine wpList_store_row rfl 44 _ _ rfl w1.heap.size #[.int .i64 C,.int .i64 P] (by rfl) (by rfl) _ _ r1 (f2_info C P) rfl (f2_one C P) ?_)
 go_ret3
 exact ⟨rfl,HS.out⟩
set_option maxHeartbeats 4000000 in
theorem rdec_7 (s:ByteArray) (C P:Int) (hC:(C != 0) = false) (x0 x1 x2 x3 x4:Nd) (d1:RDecT s C P [x0,x1,x2,x3,x4]) (g0:((x0.k.length:Int) != 3) = false) (g1:(x0.c != 0) = false) (g2:(x0.t != 16) = false) (g3:(x1.c != 0) = false) (g4:(x1.t != 2) = false) (g5:(!(x1.d.toList == [1])) = false) (g6:(x2.c != 0) = false) (g7:(x2.t != 4) = true):Mak 9 #[.string s] (.tuple #[.int .i64 0,.string ⟨#[]⟩,.int .i64 5]):=by
 intro w
 have HS:=lH (Since.refl w)
 go_enter Tryz.func9,Tryz.ntmps9
 go_wp2_with fail
 refine (d1 _).mono ?_
 rintro _ w1 ⟨u1,rfl,hU,h1⟩
 obtain ⟨A1,q1,e1,-,-⟩:=hU.slice
 subst e1
 replace HS:=lH (HS.out.step h1)
 have r1:(w1.alloc (.cells #[.int .i64 0,.int .i64 0] 44)).heap[w1.heap.size]? = some (.cells #[.int .i64 0,.int .i64 0] 44 (0,0)):=heap_alloc_new w1 _
 have hb:=lH (hb_row (K:=KT) (C':=#[.int .i64 C,.int .i64 P]) ((Since.refl w1).alloc _) (Nat.le_refl _) trivial r1)
 have y0:=hb.out.cell 0 _ rfl
 have y1:=hb.out.cell 1 _ rfl
 replace HS:=lH (HS.out.step hb.out.since)
 have HU:=lH (hU.since hb.out.since)
 clear hU h1
 obtain ⟨b,o,cc,e2,-,-,l3,l4⟩:=HU.out.form (by show 0 < 5; omega)
 obtain ⟨e3,-,e4⟩:=Value.slice.inj e2
 subst e3
 subst e4
 obtain ⟨v0,a0,a1,-,-,a4,i0⟩:=l4 0 x0 rfl
 obtain ⟨v1,b0,b1,-,b3,-,-⟩:=l4 1 x1 rfl
 obtain ⟨v2,c0,c1,-,c3,-,-⟩:=l4 2 x2 rfl
 obtain ⟨v3,e0,e1,-,-,e4,i3⟩:=l4 3 x3 rfl
 obtain ⟨v4,f0,f1,-,f3,-,-⟩:=l4 4 x4 rfl
 obtain ⟨A0,q0,rfl,-,-⟩:=i0.slice
 obtain ⟨A3,q3,rfl,-,-⟩:=i3.slice
 simp only [Nat.zero_mul,Nat.one_mul,Nat.reduceMul,Nat.add_zero] at a0 a1 a4 b0 b1 b3 c0 c1 c3 e0 e1 e4 f0 f1 f3
 have GG:=lH (And.intro l3 c3)
 clear e2 l3 l4 i0 i3
 rw [show [x0,x1,x2,x3,x4].length = 5 from rfl] at HU ⊢
 go_wp2_with (refine wpList_store_row rfl 44 _ _ rfl w1.heap.size #[.int .i64 C,.int .i64 P] (by rfl) (by rfl) _ _ r1 (f2_info C P) rfl (f2_one C P) ?_)
 go_ret3
 exact ⟨rfl,HS.out⟩
set_option maxHeartbeats 4000000 in
theorem rdec_8 (s:ByteArray) (C P:Int) (hC:(C != 0) = false) (x0 x1 x2 x3 x4:Nd) (d1:RDecT s C P [x0,x1,x2,x3,x4]) (g0:((x0.k.length:Int) != 3) = false) (g1:(x0.c != 0) = false) (g2:(x0.t != 16) = false) (g3:(x1.c != 0) = false) (g4:(x1.t != 2) = false) (g5:(!(x1.d.toList == [1])) = false) (g6:(x2.c != 0) = false) (g7:(x2.t != 4) = false) (g8:(x3.c != 2) = true):Mak 9 #[.string s] (.tuple #[.int .i64 0,.string ⟨#[]⟩,.int .i64 5]):=by
 intro w
 have HS:=lH (Since.refl w)
 go_enter Tryz.func9,Tryz.ntmps9
 go_wp2_with fail
 refine (d1 _).mono ?_
 rintro _ w1 ⟨u1,rfl,hU,h1⟩
 obtain ⟨A1,q1,e1,-,-⟩:=hU.slice
 subst e1
 replace HS:=lH (HS.out.step h1)
 have r1:(w1.alloc (.cells #[.int .i64 0,.int .i64 0] 44)).heap[w1.heap.size]? = some (.cells #[.int .i64 0,.int .i64 0] 44 (0,0)):=heap_alloc_new w1 _
 have hb:=lH (hb_row (K:=KT) (C':=#[.int .i64 C,.int .i64 P]) ((Since.refl w1).alloc _) (Nat.le_refl _) trivial r1)
 have y0:=hb.out.cell 0 _ rfl
 have y1:=hb.out.cell 1 _ rfl
 replace HS:=lH (HS.out.step hb.out.since)
 have HU:=lH (hU.since hb.out.since)
 clear hU h1
 obtain ⟨b,o,cc,e2,-,-,l3,l4⟩:=HU.out.form (by show 0 < 5; omega)
 obtain ⟨e3,-,e4⟩:=Value.slice.inj e2
 subst e3
 subst e4
 obtain ⟨v0,a0,a1,-,-,a4,i0⟩:=l4 0 x0 rfl
 obtain ⟨v1,b0,b1,-,b3,-,-⟩:=l4 1 x1 rfl
 obtain ⟨v2,c0,c1,-,c3,-,-⟩:=l4 2 x2 rfl
 obtain ⟨v3,e0,e1,-,-,e4,i3⟩:=l4 3 x3 rfl
 obtain ⟨v4,f0,f1,-,f3,-,-⟩:=l4 4 x4 rfl
 obtain ⟨A0,q0,rfl,-,-⟩:=i0.slice
 obtain ⟨A3,q3,rfl,-,-⟩:=i3.slice
 simp only [Nat.zero_mul,Nat.one_mul,Nat.reduceMul,Nat.add_zero] at a0 a1 a4 b0 b1 b3 c0 c1 c3 e0 e1 e4 f0 f1 f3
 have GG:=lH (And.intro l3 c3)
 clear e2 l3 l4 i0 i3
 rw [show [x0,x1,x2,x3,x4].length = 5 from rfl] at HU ⊢
 go_wp2_with (refine wpList_store_row rfl 44 _ _ rfl w1.heap.size #[.int .i64 C,.int .i64 P] (by rfl) (by rfl) _ _ r1 (f2_info C P) rfl (f2_one C P) ?_)
 go_ret3
 exact ⟨rfl,HS.out⟩
set_option maxHeartbeats 4000000 in
theorem rdec_9 (s:ByteArray) (C P:Int) (hC:(C != 0) = false) (x0 x1 x2 x3 x4:Nd) (d1:RDecT s C P [x0,x1,x2,x3,x4]) (g0:((x0.k.length:Int) != 3) = false) (g1:(x0.c != 0) = false) (g2:(x0.t != 16) = false) (g3:(x1.c != 0) = false) (g4:(x1.t != 2) = false) (g5:(!(x1.d.toList == [1])) = false) (g6:(x2.c != 0) = false) (g7:(x2.t != 4) = false) (g8:(x3.c != 2) = false) (g9:(x3.t != 0) = true):Mak 9 #[.string s] (.tuple #[.int .i64 0,.string ⟨#[]⟩,.int .i64 5]):=by
 intro w
 have HS:=lH (Since.refl w)
 go_enter Tryz.func9,Tryz.ntmps9
 go_wp2_with fail
 refine (d1 _).mono ?_
 rintro _ w1 ⟨u1,rfl,hU,h1⟩
 obtain ⟨A1,q1,e1,-,-⟩:=hU.slice
 subst e1
 replace HS:=lH (HS.out.step h1)
 have r1:(w1.alloc (.cells #[.int .i64 0,.int .i64 0] 44)).heap[w1.heap.size]? = some (.cells #[.int .i64 0,.int .i64 0] 44 (0,0)):=heap_alloc_new w1 _
 have hb:=lH (hb_row (K:=KT) (C':=#[.int .i64 C,.int .i64 P]) ((Since.refl w1).alloc _) (Nat.le_refl _) trivial r1)
 have y0:=hb.out.cell 0 _ rfl
 have y1:=hb.out.cell 1 _ rfl
 replace HS:=lH (HS.out.step hb.out.since)
 have HU:=lH (hU.since hb.out.since)
 clear hU h1
 obtain ⟨b,o,cc,e2,-,-,l3,l4⟩:=HU.out.form (by show 0 < 5; omega)
 obtain ⟨e3,-,e4⟩:=Value.slice.inj e2
 subst e3
 subst e4
 obtain ⟨v0,a0,a1,-,-,a4,i0⟩:=l4 0 x0 rfl
 obtain ⟨v1,b0,b1,-,b3,-,-⟩:=l4 1 x1 rfl
 obtain ⟨v2,c0,c1,-,c3,-,-⟩:=l4 2 x2 rfl
 obtain ⟨v3,e0,e1,-,-,e4,i3⟩:=l4 3 x3 rfl
 obtain ⟨v4,f0,f1,-,f3,-,-⟩:=l4 4 x4 rfl
 obtain ⟨A0,q0,rfl,-,-⟩:=i0.slice
 obtain ⟨A3,q3,rfl,-,-⟩:=i3.slice
 simp only [Nat.zero_mul,Nat.one_mul,Nat.reduceMul,Nat.add_zero] at a0 a1 a4 b0 b1 b3 c0 c1 c3 e0 e1 e4 f0 f1 f3
 have GG:=lH (And.intro l3 c3)
 clear e2 l3 l4 i0 i3
 rw [show [x0,x1,x2,x3,x4].length = 5 from rfl] at HU ⊢
 go_wp2_with (refine wpList_store_row rfl 44 _ _ rfl w1.heap.size #[.int .i64 C,.int .i64 P] (by rfl) (by rfl) _ _ r1 (f2_info C P) rfl (f2_one C P) ?_)
 go_ret3
 exact ⟨rfl,HS.out⟩
set_option maxHeartbeats 4000000 in
theorem rdec_10 (s:ByteArray) (C P:Int) (hC:(C != 0) = false) (x0 x1 x2 x3 x4:Nd) (d1:RDecT s C P [x0,x1,x2,x3,x4]) (g0:((x0.k.length:Int) != 3) = false) (g1:(x0.c != 0) = false) (g2:(x0.t != 16) = false) (g3:(x1.c != 0) = false) (g4:(x1.t != 2) = false) (g5:(!(x1.d.toList == [1])) = false) (g6:(x2.c != 0) = false) (g7:(x2.t != 4) = false) (g8:(x3.c != 2) = false) (g9:(x3.t != 0) = false) (g10:((x3.k.length:Int) != 1) = true):Mak 9 #[.string s] (.tuple #[.int .i64 0,.string ⟨#[]⟩,.int .i64 5]):=by
 intro w
 have HS:=lH (Since.refl w)
 go_enter Tryz.func9,Tryz.ntmps9
 go_wp2_with fail
 refine (d1 _).mono ?_
 rintro _ w1 ⟨u1,rfl,hU,h1⟩
 obtain ⟨A1,q1,e1,-,-⟩:=hU.slice
 subst e1
 replace HS:=lH (HS.out.step h1)
 have r1:(w1.alloc (.cells #[.int .i64 0,.int .i64 0] 44)).heap[w1.heap.size]? = some (.cells #[.int .i64 0,.int .i64 0] 44 (0,0)):=heap_alloc_new w1 _
 have hb:=lH (hb_row (K:=KT) (C':=#[.int .i64 C,.int .i64 P]) ((Since.refl w1).alloc _) (Nat.le_refl _) trivial r1)
 have y0:=hb.out.cell 0 _ rfl
 have y1:=hb.out.cell 1 _ rfl
 replace HS:=lH (HS.out.step hb.out.since)
 have HU:=lH (hU.since hb.out.since)
 clear hU h1
 obtain ⟨b,o,cc,e2,-,-,l3,l4⟩:=HU.out.form (by show 0 < 5; omega)
 obtain ⟨e3,-,e4⟩:=Value.slice.inj e2
 subst e3
 subst e4
 obtain ⟨v0,a0,a1,-,-,a4,i0⟩:=l4 0 x0 rfl
 obtain ⟨v1,b0,b1,-,b3,-,-⟩:=l4 1 x1 rfl
 obtain ⟨v2,c0,c1,-,c3,-,-⟩:=l4 2 x2 rfl
 obtain ⟨v3,e0,e1,-,-,e4,i3⟩:=l4 3 x3 rfl
 obtain ⟨v4,f0,f1,-,f3,-,-⟩:=l4 4 x4 rfl
 obtain ⟨A0,q0,rfl,-,-⟩:=i0.slice
 obtain ⟨A3,q3,rfl,-,-⟩:=i3.slice
 simp only [Nat.zero_mul,Nat.one_mul,Nat.reduceMul,Nat.add_zero] at a0 a1 a4 b0 b1 b3 c0 c1 c3 e0 e1 e4 f0 f1 f3
 have GG:=lH (And.intro l3 c3)
 clear e2 l3 l4 i0 i3
 rw [show [x0,x1,x2,x3,x4].length = 5 from rfl] at HU ⊢
 go_wp2_with (refine wpList_store_row rfl 44 _ _ rfl w1.heap.size #[.int .i64 C,.int .i64 P] (by rfl) (by rfl) _ _ r1 (f2_info C P) rfl (f2_one C P) ?_)
 go_ret3
 exact ⟨rfl,HS.out⟩
set_option maxHeartbeats 4000000 in
theorem rdec_11 (s:ByteArray) (C P:Int) (hC:(C != 0) = false) (x0 x1 x2 x3 x4:Nd) (d1:RDecT s C P [x0,x1,x2,x3,x4]) (g0:((x0.k.length:Int) != 3) = false) (g1:(x0.c != 0) = false) (g2:(x0.t != 16) = false) (g3:(x1.c != 0) = false) (g4:(x1.t != 2) = false) (g5:(!(x1.d.toList == [1])) = false) (g6:(x2.c != 0) = false) (g7:(x2.t != 4) = false) (g8:(x3.c != 2) = false) (g9:(x3.t != 0) = false) (g10:((x3.k.length:Int) != 1) = false) (g11:(x4.c != 0) = true):Mak 9 #[.string s] (.tuple #[.int .i64 0,.string ⟨#[]⟩,.int .i64 5]):=by
 intro w
 have HS:=lH (Since.refl w)
 go_enter Tryz.func9,Tryz.ntmps9
 go_wp2_with fail
 refine (d1 _).mono ?_
 rintro _ w1 ⟨u1,rfl,hU,h1⟩
 obtain ⟨A1,q1,e1,-,-⟩:=hU.slice
 subst e1
 replace HS:=lH (HS.out.step h1)
 have r1:(w1.alloc (.cells #[.int .i64 0,.int .i64 0] 44)).heap[w1.heap.size]? = some (.cells #[.int .i64 0,.int .i64 0] 44 (0,0)):=heap_alloc_new w1 _
 have hb:=lH (hb_row (K:=KT) (C':=#[.int .i64 C,.int .i64 P]) ((Since.refl w1).alloc _) (Nat.le_refl _) trivial r1)
 have y0:=hb.out.cell 0 _ rfl
 have y1:=hb.out.cell 1 _ rfl
 replace HS:=lH (HS.out.step hb.out.since)
 have HU:=lH (hU.since hb.out.since)
 clear hU h1
 obtain ⟨b,o,cc,e2,-,-,l3,l4⟩:=HU.out.form (by show 0 < 5; omega)
 obtain ⟨e3,-,e4⟩:=Value.slice.inj e2
 subst e3
 subst e4
 obtain ⟨v0,a0,a1,-,-,a4,i0⟩:=l4 0 x0 rfl
 obtain ⟨v1,b0,b1,-,b3,-,-⟩:=l4 1 x1 rfl
 obtain ⟨v2,c0,c1,-,c3,-,-⟩:=l4 2 x2 rfl
 obtain ⟨v3,e0,e1,-,-,e4,i3⟩:=l4 3 x3 rfl
 obtain ⟨v4,f0,f1,-,f3,-,-⟩:=l4 4 x4 rfl
 obtain ⟨A0,q0,rfl,-,-⟩:=i0.slice
 obtain ⟨A3,q3,rfl,-,-⟩:=i3.slice
 simp only [Nat.zero_mul,Nat.one_mul,Nat.reduceMul,Nat.add_zero] at a0 a1 a4 b0 b1 b3 c0 c1 c3 e0 e1 e4 f0 f1 f3
 have GG:=lH (And.intro l3 c3)
 clear e2 l3 l4 i0 i3
 rw [show [x0,x1,x2,x3,x4].length = 5 from rfl] at HU ⊢
 go_wp2_with (refine wpList_store_row rfl 44 _ _ rfl w1.heap.size #[.int .i64 C,.int .i64 P] (by rfl) (by rfl) _ _ r1 (f2_info C P) rfl (f2_one C P) ?_)
 go_ret3
 exact ⟨rfl,HS.out⟩
set_option maxHeartbeats 4000000 in
theorem rdec_12 (s:ByteArray) (C P:Int) (hC:(C != 0) = false) (x0 x1 x2 x3 x4:Nd) (d1:RDecT s C P [x0,x1,x2,x3,x4]) (g0:((x0.k.length:Int) != 3) = false) (g1:(x0.c != 0) = false) (g2:(x0.t != 16) = false) (g3:(x1.c != 0) = false) (g4:(x1.t != 2) = false) (g5:(!(x1.d.toList == [1])) = false) (g6:(x2.c != 0) = false) (g7:(x2.t != 4) = false) (g8:(x3.c != 2) = false) (g9:(x3.t != 0) = false) (g10:((x3.k.length:Int) != 1) = false) (g11:(x4.c != 0) = false) (g12:(x4.t != 6) = true):Mak 9 #[.string s] (.tuple #[.int .i64 0,.string ⟨#[]⟩,.int .i64 5]):=by
 intro w
 have HS:=lH (Since.refl w)
 go_enter Tryz.func9,Tryz.ntmps9
 go_wp2_with fail
 refine (d1 _).mono ?_
 rintro _ w1 ⟨u1,rfl,hU,h1⟩
 obtain ⟨A1,q1,e1,-,-⟩:=hU.slice
 subst e1
 replace HS:=lH (HS.out.step h1)
 have r1:(w1.alloc (.cells #[.int .i64 0,.int .i64 0] 44)).heap[w1.heap.size]? = some (.cells #[.int .i64 0,.int .i64 0] 44 (0,0)):=heap_alloc_new w1 _
 have hb:=lH (hb_row (K:=KT) (C':=#[.int .i64 C,.int .i64 P]) ((Since.refl w1).alloc _) (Nat.le_refl _) trivial r1)
 have y0:=hb.out.cell 0 _ rfl
 have y1:=hb.out.cell 1 _ rfl
 replace HS:=lH (HS.out.step hb.out.since)
 have HU:=lH (hU.since hb.out.since)
 clear hU h1
 obtain ⟨b,o,cc,e2,-,-,l3,l4⟩:=HU.out.form (by show 0 < 5; omega)
 obtain ⟨e3,-,e4⟩:=Value.slice.inj e2
 subst e3
 subst e4
 obtain ⟨v0,a0,a1,-,-,a4,i0⟩:=l4 0 x0 rfl
 obtain ⟨v1,b0,b1,-,b3,-,-⟩:=l4 1 x1 rfl
 obtain ⟨v2,c0,c1,-,c3,-,-⟩:=l4 2 x2 rfl
 obtain ⟨v3,e0,e1,-,-,e4,i3⟩:=l4 3 x3 rfl
 obtain ⟨v4,f0,f1,-,f3,-,-⟩:=l4 4 x4 rfl
 obtain ⟨A0,q0,rfl,-,-⟩:=i0.slice
 obtain ⟨A3,q3,rfl,-,-⟩:=i3.slice
 simp only [Nat.zero_mul,Nat.one_mul,Nat.reduceMul,Nat.add_zero] at a0 a1 a4 b0 b1 b3 c0 c1 c3 e0 e1 e4 f0 f1 f3
 have GG:=lH (And.intro l3 c3)
 clear e2 l3 l4 i0 i3
 rw [show [x0,x1,x2,x3,x4].length = 5 from rfl] at HU ⊢
 go_wp2_with (refine wpList_store_row rfl 44 _ _ rfl w1.heap.size #[.int .i64 C,.int .i64 P] (by rfl) (by rfl) _ _ r1 (f2_info C P) rfl (f2_one C P) ?_)
 go_ret3
 exact ⟨rfl,HS.out⟩
set_option maxHeartbeats 4000000 in
theorem rdec_kind (s:ByteArray) (C P:Int) (hC:(C != 0) = false) (x0 x1 x2 x3 x4:Nd) (d1:RDecT s C P [x0,x1,x2,x3,x4]) (g0:((x0.k.length:Int) != 3) = false) (g1:(x0.c != 0) = false) (g2:(x0.t != 16) = false) (g3:(x1.c != 0) = false) (g4:(x1.t != 2) = false) (g5:(!(x1.d.toList == [1])) = false) (g6:(x2.c != 0) = false) (g7:(x2.t != 4) = false) (g8:(x3.c != 2) = false) (g9:(x3.t != 0) = false) (g10:((x3.k.length:Int) != 1) = false) (g11:(x4.c != 0) = false) (g12:(x4.t != 6) = false) (xs:List Int) (qd:Bool) (k2:MkI 27 #[.string x4.d] xs qd) (n:Int) (k3:Oid.RdI 28 xs (.tuple #[.int .i64 n,.bool false])):Mak 9 #[.string s] (.tuple #[.int .i64 0,.string ⟨#[]⟩,.int .i64 8]):=by
 intro w
 have HS:=lH (Since.refl w)
 go_enter Tryz.func9,Tryz.ntmps9
 go_wp2_with fail
 refine (d1 _).mono ?_
 rintro _ w1 ⟨u1,rfl,hU,h1⟩
 obtain ⟨A1,q1,e1,-,-⟩:=hU.slice
 subst e1
 replace HS:=lH (HS.out.step h1)
 have r1:(w1.alloc (.cells #[.int .i64 0,.int .i64 0] 44)).heap[w1.heap.size]? = some (.cells #[.int .i64 0,.int .i64 0] 44 (0,0)):=heap_alloc_new w1 _
 have hb:=lH (hb_row (K:=KT) (C':=#[.int .i64 C,.int .i64 P]) ((Since.refl w1).alloc _) (Nat.le_refl _) trivial r1)
 have y0:=hb.out.cell 0 _ rfl
 have y1:=hb.out.cell 1 _ rfl
 replace HS:=lH (HS.out.step hb.out.since)
 have HU:=lH (hU.since hb.out.since)
 clear hU h1
 obtain ⟨b,o,cc,e2,-,-,l3,l4⟩:=HU.out.form (by show 0 < 5; omega)
 obtain ⟨e3,-,e4⟩:=Value.slice.inj e2
 subst e3
 subst e4
 obtain ⟨v0,a0,a1,-,-,a4,i0⟩:=l4 0 x0 rfl
 obtain ⟨v1,b0,b1,-,b3,-,-⟩:=l4 1 x1 rfl
 obtain ⟨v2,c0,c1,-,c3,-,-⟩:=l4 2 x2 rfl
 obtain ⟨v3,e0,e1,-,-,e4,i3⟩:=l4 3 x3 rfl
 obtain ⟨v4,f0,f1,-,f3,-,-⟩:=l4 4 x4 rfl
 obtain ⟨A0,q0,rfl,-,-⟩:=i0.slice
 obtain ⟨A3,q3,rfl,-,-⟩:=i3.slice
 simp only [Nat.zero_mul,Nat.one_mul,Nat.reduceMul,Nat.add_zero] at a0 a1 a4 b0 b1 b3 c0 c1 c3 e0 e1 e4 f0 f1 f3
 have GG:=lH (And.intro l3 c3)
 clear e2 l3 l4 i0 i3
 rw [show [x0,x1,x2,x3,x4].length = 5 from rfl] at HU ⊢
 go_wp2_with (refine wpList_store_row rfl 44 _ _ rfl w1.heap.size #[.int .i64 C,.int .i64 P] (by rfl) (by rfl) _ _ r1 (f2_info C P) rfl (f2_one C P) ?_)
 have HSa:=HS
 clear a0 a1 a4 b0 b1 b3 c0 c1 c3 e0 e1 e4 f0 f1 f3 y0 y1 r1 hb HU
 refine (k2 _).mono ?_
 rintro _ w3 ⟨v3,rfl,hv3,h3⟩
 obtain ⟨A3',q3',e3,-,-⟩:=hv3.slice
 subst e3
 obtain ⟨l3,c3⟩:=GG.out
 replace c3:=(Below.cell h3 (p:=⟨b,o + 10 + 3,none⟩) l3).trans c3
 replace l3:=Nat.lt_of_lt_of_le l3 (Below.size h3)
 replace HS:=lH (HS.out.step h3)
 have HI:=lH hv3
 have G2:=lH (And.intro l3 c3)
 clear h3 hv3 l3 c3 GG
 go_wp2_with fail
 refine k3.calls0 HI.out ?_
 intro w4 h4
 obtain ⟨l3,c3⟩:=G2.out
 replace c3:=(Below.cell h4 (p:=⟨b,o + 10 + 3,none⟩) l3).trans c3
 replace l3:=Nat.lt_of_lt_of_le l3 (Below.size h4)
 replace HS:=lH (HS.out.step h4)
 have G3:=lH (And.intro l3 c3)
 clear h4 HI l3 G2
 go_wp2_with fail
 go_ret3
 exact ⟨rfl,HS.out⟩
set_option maxHeartbeats 4000000 in
theorem rdec_key0 (s:ByteArray) (C P:Int) (hC:(C != 0) = false) (x0 x1 x2 x3 x4:Nd) (d1:RDecT s C P [x0,x1,x2,x3,x4]) (g0:((x0.k.length:Int) != 3) = false) (g1:(x0.c != 0) = false) (g2:(x0.t != 16) = false) (g3:(x1.c != 0) = false) (g4:(x1.t != 2) = false) (g5:(!(x1.d.toList == [1])) = false) (g6:(x2.c != 0) = false) (g7:(x2.t != 4) = false) (g8:(x3.c != 2) = false) (g9:(x3.t != 0) = false) (g10:((x3.k.length:Int) != 1) = false) (g11:(x4.c != 0) = false) (g12:(x4.t != 6) = false) (xs:List Int) (qd:Bool) (k2:MkI 27 #[.string x4.d] xs qd) (n:Int) (k3:Oid.RdI 28 xs (.tuple #[.int .i64 n,.bool true])) (X:ByteArray) (E:Int) (hE:(E != 0) = true) (k4:Mak 7 #[.int .i64 n,.string x2.d] (.tuple #[.string X,.int .i64 E])):Mak 9 #[.string s] (.tuple #[.int .i64 0,.string ⟨#[]⟩,.int .i64 E]):=by
 intro w
 have HS:=lH (Since.refl w)
 go_enter Tryz.func9,Tryz.ntmps9
 go_wp2_with fail
 refine (d1 _).mono ?_
 rintro _ w1 ⟨u1,rfl,hU,h1⟩
 obtain ⟨A1,q1,e1,-,-⟩:=hU.slice
 subst e1
 replace HS:=lH (HS.out.step h1)
 have r1:(w1.alloc (.cells #[.int .i64 0,.int .i64 0] 44)).heap[w1.heap.size]? = some (.cells #[.int .i64 0,.int .i64 0] 44 (0,0)):=heap_alloc_new w1 _
 have hb:=lH (hb_row (K:=KT) (C':=#[.int .i64 C,.int .i64 P]) ((Since.refl w1).alloc _) (Nat.le_refl _) trivial r1)
 have y0:=hb.out.cell 0 _ rfl
 have y1:=hb.out.cell 1 _ rfl
 replace HS:=lH (HS.out.step hb.out.since)
 have HU:=lH (hU.since hb.out.since)
 clear hU h1
 obtain ⟨b,o,cc,e2,-,-,l3,l4⟩:=HU.out.form (by show 0 < 5; omega)
 obtain ⟨e3,-,e4⟩:=Value.slice.inj e2
 subst e3
 subst e4
 obtain ⟨v0,a0,a1,-,-,a4,i0⟩:=l4 0 x0 rfl
 obtain ⟨v1,b0,b1,-,b3,-,-⟩:=l4 1 x1 rfl
 obtain ⟨v2,c0,c1,-,c3,-,-⟩:=l4 2 x2 rfl
 obtain ⟨v3,e0,e1,-,-,e4,i3⟩:=l4 3 x3 rfl
 obtain ⟨v4,f0,f1,-,f3,-,-⟩:=l4 4 x4 rfl
 obtain ⟨A0,q0,rfl,-,-⟩:=i0.slice
 obtain ⟨A3,q3,rfl,-,-⟩:=i3.slice
 simp only [Nat.zero_mul,Nat.one_mul,Nat.reduceMul,Nat.add_zero] at a0 a1 a4 b0 b1 b3 c0 c1 c3 e0 e1 e4 f0 f1 f3
 have GG:=lH (And.intro l3 c3)
 clear e2 l3 l4 i0 i3
 rw [show [x0,x1,x2,x3,x4].length = 5 from rfl] at HU ⊢
 go_wp2_with (refine wpList_store_row rfl 44 _ _ rfl w1.heap.size #[.int .i64 C,.int .i64 P] (by rfl) (by rfl) _ _ r1 (f2_info C P) rfl (f2_one C P) ?_)
 have HSa:=HS
 clear a0 a1 a4 b0 b1 b3 c0 c1 c3 e0 e1 e4 f0 f1 f3 y0 y1 r1 hb HU
 refine (k2 _).mono ?_
 rintro _ w3 ⟨v3,rfl,hv3,h3⟩
 obtain ⟨A3',q3',e3,-,-⟩:=hv3.slice
 subst e3
 obtain ⟨l3,c3⟩:=GG.out
 replace c3:=(Below.cell h3 (p:=⟨b,o + 10 + 3,none⟩) l3).trans c3
 replace l3:=Nat.lt_of_lt_of_le l3 (Below.size h3)
 replace HS:=lH (HS.out.step h3)
 have HI:=lH hv3
 have G2:=lH (And.intro l3 c3)
 clear h3 hv3 l3 c3 GG
 go_wp2_with fail
 refine k3.calls0 HI.out ?_
 intro w4 h4
 obtain ⟨l3,c3⟩:=G2.out
 replace c3:=(Below.cell h4 (p:=⟨b,o + 10 + 3,none⟩) l3).trans c3
 replace l3:=Nat.lt_of_lt_of_le l3 (Below.size h4)
 replace HS:=lH (HS.out.step h4)
 have G3:=lH (And.intro l3 c3)
 clear h4 HI l3 G2
 go_wp2_with fail
 refine k4.calls0 ?_
 intro w5 h5
 obtain ⟨l3,c3⟩:=G3.out
 replace c3:=(Below.cell h5 (p:=⟨b,o + 10 + 3,none⟩) l3).trans c3
 replace HS:=lH (HS.out.step h5)
 clear h5 G3 l3
 go_wp2_with fail
 go_ret3
 exact ⟨rfl,HS.out⟩
set_option maxHeartbeats 4000000 in
theorem rdec_key1 (s:ByteArray) (C P:Int) (hC:(C != 0) = false) (x0 x1 x2 x3 x4:Nd) (d1:RDecT s C P [x0,x1,x2,x3,x4]) (g0:((x0.k.length:Int) != 3) = false) (g1:(x0.c != 0) = false) (g2:(x0.t != 16) = false) (g3:(x1.c != 0) = false) (g4:(x1.t != 2) = false) (g5:(!(x1.d.toList == [1])) = false) (g6:(x2.c != 0) = false) (g7:(x2.t != 4) = false) (g8:(x3.c != 2) = false) (g9:(x3.t != 0) = false) (g10:((x3.k.length:Int) != 1) = false) (g11:(x4.c != 0) = false) (g12:(x4.t != 6) = false) (xs:List Int) (qd:Bool) (k2:MkI 27 #[.string x4.d] xs qd) (n:Int) (k3:Oid.RdI 28 xs (.tuple #[.int .i64 n,.bool true])) (X:ByteArray) (E:Int) (hE:(E != 0) = false) (k4:Mak 7 #[.int .i64 n,.string x2.d] (.tuple #[.string X,.int .i64 E])):Mak 9 #[.string s] (.tuple #[.int .i64 n,.string x2.d,.int .i64 0]):=by
 intro w
 have HS:=lH (Since.refl w)
 go_enter Tryz.func9,Tryz.ntmps9
 go_wp2_with fail
 refine (d1 _).mono ?_
 rintro _ w1 ⟨u1,rfl,hU,h1⟩
 obtain ⟨A1,q1,e1,-,-⟩:=hU.slice
 subst e1
 replace HS:=lH (HS.out.step h1)
 have r1:(w1.alloc (.cells #[.int .i64 0,.int .i64 0] 44)).heap[w1.heap.size]? = some (.cells #[.int .i64 0,.int .i64 0] 44 (0,0)):=heap_alloc_new w1 _
 have hb:=lH (hb_row (K:=KT) (C':=#[.int .i64 C,.int .i64 P]) ((Since.refl w1).alloc _) (Nat.le_refl _) trivial r1)
 have y0:=hb.out.cell 0 _ rfl
 have y1:=hb.out.cell 1 _ rfl
 replace HS:=lH (HS.out.step hb.out.since)
 have HU:=lH (hU.since hb.out.since)
 clear hU h1
 obtain ⟨b,o,cc,e2,-,-,l3,l4⟩:=HU.out.form (by show 0 < 5; omega)
 obtain ⟨e3,-,e4⟩:=Value.slice.inj e2
 subst e3
 subst e4
 obtain ⟨v0,a0,a1,-,-,a4,i0⟩:=l4 0 x0 rfl
 obtain ⟨v1,b0,b1,-,b3,-,-⟩:=l4 1 x1 rfl
 obtain ⟨v2,c0,c1,-,c3,-,-⟩:=l4 2 x2 rfl
 obtain ⟨v3,e0,e1,-,-,e4,i3⟩:=l4 3 x3 rfl
 obtain ⟨v4,f0,f1,-,f3,-,-⟩:=l4 4 x4 rfl
 obtain ⟨A0,q0,rfl,-,-⟩:=i0.slice
 obtain ⟨A3,q3,rfl,-,-⟩:=i3.slice
 simp only [Nat.zero_mul,Nat.one_mul,Nat.reduceMul,Nat.add_zero] at a0 a1 a4 b0 b1 b3 c0 c1 c3 e0 e1 e4 f0 f1 f3
 have GG:=lH (And.intro l3 c3)
 clear e2 l3 l4 i0 i3
 rw [show [x0,x1,x2,x3,x4].length = 5 from rfl] at HU ⊢
 go_wp2_with (refine wpList_store_row rfl 44 _ _ rfl w1.heap.size #[.int .i64 C,.int .i64 P] (by rfl) (by rfl) _ _ r1 (f2_info C P) rfl (f2_one C P) ?_)
 have HSa:=HS
 clear a0 a1 a4 b0 b1 b3 c0 c1 c3 e0 e1 e4 f0 f1 f3 y0 y1 r1 hb HU
 refine (k2 _).mono ?_
 rintro _ w3 ⟨v3,rfl,hv3,h3⟩
 obtain ⟨A3',q3',e3,-,-⟩:=hv3.slice
 subst e3
 obtain ⟨l3,c3⟩:=GG.out
 replace c3:=(Below.cell h3 (p:=⟨b,o + 10 + 3,none⟩) l3).trans c3
 replace l3:=Nat.lt_of_lt_of_le l3 (Below.size h3)
 replace HS:=lH (HS.out.step h3)
 have HI:=lH hv3
 have G2:=lH (And.intro l3 c3)
 clear h3 hv3 l3 c3 GG
 go_wp2_with fail
 refine k3.calls0 HI.out ?_
 intro w4 h4
 obtain ⟨l3,c3⟩:=G2.out
 replace c3:=(Below.cell h4 (p:=⟨b,o + 10 + 3,none⟩) l3).trans c3
 replace l3:=Nat.lt_of_lt_of_le l3 (Below.size h4)
 replace HS:=lH (HS.out.step h4)
 have G3:=lH (And.intro l3 c3)
 clear h4 HI l3 G2
 go_wp2_with fail
 refine k4.calls0 ?_
 intro w5 h5
 obtain ⟨l3,c3⟩:=G3.out
 replace c3:=(Below.cell h5 (p:=⟨b,o + 10 + 3,none⟩) l3).trans c3
 replace HS:=lH (HS.out.step h5)
 clear h5 G3 l3
 go_wp2_with fail
 go_quiet (fail)
 replace HS:Hid (Since w _):=lH (HS.out.step (Att.belowN _ nq))
 go_wp2_with fail
 go_ret3
 exact ⟨rfl,HS.out⟩
end Sec
namespace Sec
open Tlv Tree Strs Curve
theorem size_le (g:F):∀ (i:Nat),∀ x ∈ g.flat i,x.d.size <= g.enc.length:=by
 induction g with
 | nil => intro i x h; cases h
 | prim c t d nx ih =>
   intro i x h
   have hE:(F.prim c t d nx).enc.length = (Head.encL c t false d.size).length + d.data.toList.length + nx.enc.length:=by
     show (Head.encL c t false d.size ++ d.data.toList ++ nx.enc).length = _
     rw [List.length_append,List.length_append]
   have hd:d.data.toList.length = d.size:=rfl
   rcases List.mem_cons.1 (show x ∈ (⟨c,t,false,d,[]⟩:Nd) :: nx.flat (i + 1) from h) with rfl | h
   · dsimp only; omega
   · have:=ih _ x h; omega
 | cons c t ks nx ih1 ih2 =>
   intro i x h
   have hE:(F.cons c t ks nx).enc.length = (Head.encL c t true ks.enc.length).length + ks.enc.length + nx.enc.length:=by
     show (Head.encL c t true ks.enc.length ++ ks.enc ++ nx.enc).length = _
     rw [List.length_append,List.length_append]
   rcases List.mem_cons.1 (show x ∈ (⟨c,t,true,⟨#[]⟩,ks.tops (i + 1)⟩:Nd) :: (ks.flat (i + 1) ++ nx.flat (i + 1 + ks.cnt)) from h) with rfl | h
   · exact Nat.zero_le _
   · rcases List.mem_append.1 h with h | h
     · have:=ih1 _ x h; omega
     · have:=ih2 _ x h; omega
theorem dec_of_top {s:ByteArray} {g:F} (hm:s.size <= maxLen) (h:top rightB s = .ok g):DecT s 0 0 (g.flat 0):=fun w => dec_u s hm 0 0 _ _ (show topV s = (0,0,g.flat 0,g.spans 0) by unfold topV; rw [h]) w
theorem top_der (no:Int) (k:ByteArray) (h:1 <= no /\ no <= 4) (hk:k.size <= 1000):top rightB (derS no k) = .ok (keyF (nmOf no) k):=by
 have h1:=key_le (nmOf no) k
 have h2:=nm_size no
 exact top_enc (key_is (nmOf no) k (nm_right no h)) (by omega)
theorem key_inj {nm nm' k k':ByteArray} (h:keyF nm k = keyF nm' k'):nm = nm' /\ k = k':=by
 unfold keyF at h
 injection h with _ _ h
 injection h with _ _ _ h
 injection h with _ _ h1 h
 injection h with _ _ h
 injection h with _ _ h2
 exact ⟨h2,h1⟩
theorem chk_size (no:Int) (k:ByteArray) (h:chkE no k = 0):k.size <= 66:=by
 have h1:=(chk_zero no k h).2.1
 have h2:=wid_le no
 omega
structure DecR (s:ByteArray) (n:Int) (x:ByteArray) (e:Int):Prop where
 bad:e ≠ 0 -> n = 0 /\ x = ⟨#[]⟩
 good:e = 0 -> chkE n x = 0 /\ s = derS n x
 back:∀ no k,chkE no k = 0 -> s = derS no k -> n = no /\ x = k /\ e = 0
theorem decode_k (s:ByteArray) (hm:s.size <= 1000):∃ n x e,DecR s n x e /\ KMk Tabs 8 #[.string s] (.tuple #[.int .i64 n,.string x,.int .i64 e]):=by
 have hm2:s.size <= maxLen:=by unfold maxLen; omega
 cases ht:top rightB s with
 | error z =>
   obtain ⟨c,p⟩:=z
   have hc:=(top_err_ok ht).1
   have d1:DecT s (c:Int) (p:Int) []:=fun w => dec_u s hm2 c p _ _ (show topV s = (c,p,[],[]) by unfold topV; rw [ht]) w
   refine ⟨0,⟨#[]⟩,(c:Int),⟨fun _ => ⟨rfl,rfl⟩,fun h => by omega,fun no k h1 h2 => ?_⟩,dec_err s _ _ (by rw [bne_iff_ne]; omega) d1⟩
   rw [h2,top_der no k (chk_zero no k h1).1 (by have:=chk_size no k h1; omega)] at ht
   cases ht
 | ok g =>
   obtain ⟨hg,he⟩:=top_is ht
   have d1:=dec_of_top hm2 ht
   have hel:g.enc.length = s.size:=by rw [he]; rfl
   have hsm:Small (g.flat 0):=⟨by have:=hg.len; omega,fun x hx => by have:=size_le g 0 x hx; omega⟩
   by_cases hk:IsKey g
   case neg =>
     refine ⟨0,⟨#[]⟩,5,⟨fun _ => ⟨rfl,rfl⟩,fun h => by omega,fun no k h1 h2 => ?_⟩,dec_form s 0 0 rfl _ d1 (proper_no hg hsm hk)⟩
     rw [h2,top_der no k (chk_zero no k h1).1 (by have:=chk_size no k h1; omega)] at ht
     cases ht
     exact absurd ⟨_,_,rfl,nm_right no (chk_zero no k h1).1⟩ hk
   obtain ⟨nm,k,rfl,hr⟩:=hk
   have hks:k.size <= 1000:=by
     have:=size_le (keyF nm k) 0 ⟨0,4,false,k,[]⟩ (List.mem_iff_getElem?.2 ⟨2,rfl⟩)
     dsimp only at this
     omega
   have hns:nm.size <= 1000:=by
     have:=size_le (keyF nm k) 0 ⟨0,6,false,nm,[]⟩ (List.mem_iff_getElem?.2 ⟨4,rfl⟩)
     dsimp only at this
     omega
   obtain ⟨⟨n,q⟩,hnq⟩:∃ z,z = arcsF (Oid.decL nm.data.toList):=⟨_,rfl⟩
   have c1:=proper_yes nm k hr hsm
   have c2:=Oid.decode_mk nm (by omega) _ _ rfl rfl
   have c3:=by_rd _ n q hnq
   have c4:=check_k n k (by omega) _ rfl
   have hback:∀ no k',chkE no k' = 0 -> s = derS no k' -> n = no /\ k = k':=fun no k' h1 h2 => by
     rw [h2,top_der no k' (chk_zero no k' h1).1 (by have:=chk_size no k' h1; omega)] at ht
     obtain ⟨h3,h4⟩:=key_inj (Except.ok.inj ht)
     refine ⟨?_,h4.symm⟩
     rw [<- h3,(nm_dec no (chk_zero no k' h1).1).2,<- found no (chk_zero no k' h1).1] at hnq
     exact congrArg Prod.fst hnq
   by_cases hE:chkE n k = 0
   · rw [hE] at c4
     refine ⟨n,k,0,⟨fun h => absurd rfl h,fun _ => ⟨hE, ?_⟩,fun no k' h1 h2 => ?_⟩,dec_key1 s nm k 0 0 rfl d1 c1 _ _ c2 n q c3 0 rfl c4⟩
     · have h5:=(chk_zero n k hE).1
       rcases arcs_inv _ n q hnq with h6 | h6
       · have h7:=nm_back nm hr n h6.2.2
         unfold derS
         rw [<- h7,he]
         exact (bs_list s).symm
       · omega
     · obtain ⟨h3,h4⟩:=hback no k' h1 h2
       exact ⟨h3,h4,rfl⟩
   · refine ⟨0,⟨#[]⟩,chkE n k,⟨fun _ => ⟨rfl,rfl⟩,fun h => absurd h hE,fun no k' h1 h2 => ?_⟩,dec_key0 s nm k 0 0 rfl d1 c1 _ _ c2 n q c3 _ (bne_iff_ne.2 hE) c4⟩
     obtain ⟨rfl,rfl⟩:=hback no k' h1 h2
     exact absurd h1 hE
def one:ByteArray:=⟨#[0,0,0,0,0,0,0,0,0,0,0,0,0,0,0,0,0,0,0,0,0,0,0,0,0,0,0,0,0,0,0,5]⟩
set_option maxHeartbeats 4000000 in
theorem awake_core (X:ByteArray) (t1:((X.size:Int) == 51) = true) (t2:((X.extract 0 7).toList == [48,49,2,1,1,4,32]) = true) (i1:(7:Int) <= (X.size:Int)) (c1:KMk Tabs 6 #[.int .i64 2,.string ⟨#[0,0,0,0,0,0,0,0,0,0,0,0,0,0,0,0,0,0,0,0,0,0,0,0,0,0,0,0,0,0,0,5]⟩] (.tuple #[.string X,.int .i64 0])) (c2:KMk Tabs 8 #[.string X] (.tuple #[.int .i64 2,.string ⟨#[0,0,0,0,0,0,0,0,0,0,0,0,0,0,0,0,0,0,0,0,0,0,0,0,0,0,0,0,0,0,0,5]⟩,.int .i64 0])) (c3:KMk Tabs 10 #[.int .i64 2] (.int .i64 51)):KMk Tabs 5 #[] (.bool true):=by
 intro w hT
 have HT:=lH hT
 have HS:=lH (Since.refl w)
 clear hT
 go_enter Tryz.func5,Tryz.ntmps5
 go_wp2_with fail
 refine c1.calls0 HT.out ?_
 intro w1 h1
 replace HS:=lH (HS.out.step h1)
 replace HT:=lH (Kp.keep HT.out h1)
 clear h1
 go_wp2_with fail
 refine c2.calls0 HT.out ?_
 intro w2 h1
 replace HS:=lH (HS.out.step h1)
 replace HT:=lH (Kp.keep HT.out h1)
 clear h1
 go_wp2_with fail
 refine c3.calls0 HT.out ?_
 intro w3 h1
 replace HS:=lH (HS.out.step h1)
 clear h1
 go_wp2_with fail
 go_ret
 exact ⟨rfl,HS.out⟩
theorem nm2:nmOf 2 = bs (Oid.enc [1,2,840,10045,3,1,7]):=by unfold nmOf; rw [arcs_2.2]; rfl
theorem chk2:chkE 2 one = 0:=by decide +kernel
theorem der2:(derS 2 one).size = 51 /\ (derS 2 one).extract 0 7 = ⟨#[48,49,2,1,1,4,32]⟩:=by
 unfold derS
 rw [nm2]
 decide +kernel
theorem siz2:sizI 2 = 51:=by
 unfold sizI
 rw [nm2]
 decide +kernel
theorem awake_k:KMk Tabs 5 #[] (.bool true):=by
 obtain ⟨X,hX⟩:∃ X,X = derS 2 one:=⟨_,rfl⟩
 obtain ⟨d1,d2⟩:=der2
 rw [<- hX] at d1 d2
 have c1:=encode_k 2 one (by decide) X 0 chk2.symm (by rw [if_pos rfl]; exact hX)
 obtain ⟨n,x,e,h1,c2⟩:=decode_k X (by omega)
 obtain ⟨rfl,rfl,rfl⟩:=h1.back 2 one chk2 hX
 have c3:=size_k 2 51 siz2.symm
 exact awake_core X (by rw [beq_iff_eq]; omega) (by rw [d2,toList_d]; rfl) (by omega) c1 c2 c3
end Sec
end Go.Proofs.YtpanhhjkecebkaaGreatDoor
