import Derived.Test.YtpanhhjkecebkaaGreatDoorSt30
import Derived.Test.YtpanhhjkecebkaaGreatDoorSt32
set_option maxRecDepth 100000
namespace Go.Proofs.YtpanhhjkecebkaaGreatDoor
open Go.RowKit
namespace Curve
def rowOf (no:Int):Row:=if 1 <= no /\ no <= 4 then (rows[(no - 1).toNat]?).getD noneR else noneR
def rowV (r:Row):Value:=.agg #[.string (bs r.1),.int .i64 r.2.1,.string (bs r.2.2.1),.string (bs r.2.2.2)]
set_option maxHeartbeats 1000000 in
theorem by_1 (x y z:ByteArray) (n:Int) (hr:rows[0]? = some (x.data.toList,n,y.data.toList,z.data.toList)):KMk Tabs 58 #[.int .i64 1] (.agg #[.string x,.int .i64 n,.string y,.string z]):=by
 intro w hT
 have m0:w.cell? ⟨0,0,none⟩ = some (.string x):=by have:=hT 0 _ hr 0 _ rfl; rw [<- bs_list x]; exact this
 have m1:w.cell? ⟨0,1,none⟩ = some (.int .i64 n):=by have:=hT 0 _ hr 1 _ rfl; exact this
 have m2:w.cell? ⟨0,2,none⟩ = some (.string y):=by have:=hT 0 _ hr 2 _ rfl; rw [<- bs_list y]; exact this
 have m3:w.cell? ⟨0,3,none⟩ = some (.string z):=by have:=hT 0 _ hr 3 _ rfl; rw [<- bs_list z]; exact this
 have hlt:=hT.lt
 clear hT hr
 go_enter Tryz.func58,Tryz.ntmps58
 go_wp2_with fail
 exact bodyPost_ret (v:=.agg #[.string x,.int .i64 n,.string y,.string z]) (by simp [results,Tryz.results58,go_sem]; try rfl) rfl ⟨rfl,(Below.refl _ w).alloc (Nat.le_refl _) _⟩
set_option maxHeartbeats 1000000 in
theorem by_2 (x y z:ByteArray) (n:Int) (hr:rows[1]? = some (x.data.toList,n,y.data.toList,z.data.toList)):KMk Tabs 58 #[.int .i64 2] (.agg #[.string x,.int .i64 n,.string y,.string z]):=by
 intro w hT
 have m0:w.cell? ⟨0,4,none⟩ = some (.string x):=by have:=hT 1 _ hr 0 _ rfl; rw [<- bs_list x]; exact this
 have m1:w.cell? ⟨0,5,none⟩ = some (.int .i64 n):=by have:=hT 1 _ hr 1 _ rfl; exact this
 have m2:w.cell? ⟨0,6,none⟩ = some (.string y):=by have:=hT 1 _ hr 2 _ rfl; rw [<- bs_list y]; exact this
 have m3:w.cell? ⟨0,7,none⟩ = some (.string z):=by have:=hT 1 _ hr 3 _ rfl; rw [<- bs_list z]; exact this
 have hlt:=hT.lt
 clear hT hr
 go_enter Tryz.func58,Tryz.ntmps58
 go_wp2_with fail
 exact bodyPost_ret (v:=.agg #[.string x,.int .i64 n,.string y,.string z]) (by simp [results,Tryz.results58,go_sem]; try rfl) rfl ⟨rfl,(Below.refl _ w).alloc (Nat.le_refl _) _⟩
set_option maxHeartbeats 1000000 in
theorem by_3 (x y z:ByteArray) (n:Int) (hr:rows[2]? = some (x.data.toList,n,y.data.toList,z.data.toList)):KMk Tabs 58 #[.int .i64 3] (.agg #[.string x,.int .i64 n,.string y,.string z]):=by
 intro w hT
 have m0:w.cell? ⟨0,8,none⟩ = some (.string x):=by have:=hT 2 _ hr 0 _ rfl; rw [<- bs_list x]; exact this
 have m1:w.cell? ⟨0,9,none⟩ = some (.int .i64 n):=by have:=hT 2 _ hr 1 _ rfl; exact this
 have m2:w.cell? ⟨0,10,none⟩ = some (.string y):=by have:=hT 2 _ hr 2 _ rfl; rw [<- bs_list y]; exact this
 have m3:w.cell? ⟨0,11,none⟩ = some (.string z):=by have:=hT 2 _ hr 3 _ rfl; rw [<- bs_list z]; exact this
 have hlt:=hT.lt
 clear hT hr
 go_enter Tryz.func58,Tryz.ntmps58
 go_wp2_with fail
 exact bodyPost_ret (v:=.agg #[.string x,.int .i64 n,.string y,.string z]) (by simp [results,Tryz.results58,go_sem]; try rfl) rfl ⟨rfl,(Below.refl _ w).alloc (Nat.le_refl _) _⟩
set_option maxHeartbeats 1000000 in
theorem by_4 (x y z:ByteArray) (n:Int) (hr:rows[3]? = some (x.data.toList,n,y.data.toList,z.data.toList)):KMk Tabs 58 #[.int .i64 4] (.agg #[.string x,.int .i64 n,.string y,.string z]):=by
 intro w hT
 have m0:w.cell? ⟨0,12,none⟩ = some (.string x):=by have:=hT 3 _ hr 0 _ rfl; rw [<- bs_list x]; exact this
 have m1:w.cell? ⟨0,13,none⟩ = some (.int .i64 n):=by have:=hT 3 _ hr 1 _ rfl; exact this
 have m2:w.cell? ⟨0,14,none⟩ = some (.string y):=by have:=hT 3 _ hr 2 _ rfl; rw [<- bs_list y]; exact this
 have m3:w.cell? ⟨0,15,none⟩ = some (.string z):=by have:=hT 3 _ hr 3 _ rfl; rw [<- bs_list z]; exact this
 have hlt:=hT.lt
 clear hT hr
 go_enter Tryz.func58,Tryz.ntmps58
 go_wp2_with fail
 exact bodyPost_ret (v:=.agg #[.string x,.int .i64 n,.string y,.string z]) (by simp [results,Tryz.results58,go_sem]; try rfl) rfl ⟨rfl,(Below.refl _ w).alloc (Nat.le_refl _) _⟩
theorem by_out (no:Int) (h:no < 1 ∨ 4 < no):Mak 58 #[.int .i64 no] (.agg #[.string ⟨#[]⟩,.int .i64 0,.string ⟨#[]⟩,.string ⟨#[]⟩]):=by
 intro w
 by_cases h1:no < 1
 · clear h
   go_enter Tryz.func58,Tryz.ntmps58
   go_wp2_with fail
   exact bodyPost_ret (v:=.agg #[.string ⟨#[]⟩,.int .i64 0,.string ⟨#[]⟩,.string ⟨#[]⟩]) (by simp [results,Tryz.results58,go_sem]; try rfl) rfl ⟨rfl,(Below.refl _ w).alloc (Nat.le_refl _) _⟩
 · have h2:4 < no:=by omega
   clear h
   go_enter Tryz.func58,Tryz.ntmps58
   go_wp2_with fail
   exact bodyPost_ret (v:=.agg #[.string ⟨#[]⟩,.int .i64 0,.string ⟨#[]⟩,.string ⟨#[]⟩]) (by simp [results,Tryz.results58,go_sem]; try rfl) rfl ⟨rfl,(Below.refl _ w).alloc (Nat.le_refl _) _⟩
theorem row_bs (r:Row):r = ((bs r.1).data.toList,r.2.1,(bs r.2.2.1).data.toList,(bs r.2.2.2).data.toList):=by rw [list_bs,list_bs,list_bs]
theorem row_cases (no:Int):(no < 1 ∨ 4 < no) ∨ no = 1 ∨ no = 2 ∨ no = 3 ∨ no = 4:=by omega
theorem rowOf_out (no:Int) (h:no < 1 ∨ 4 < no):rowOf no = noneR:=if_neg (by omega)
theorem by_k (no:Int):KMk Tabs 58 #[.int .i64 no] (rowV (rowOf no)):=by
 rcases row_cases no with h | rfl | rfl | rfl | rfl
 · rw [rowOf_out no h]; exact (by_out no h).k
 · exact by_1 _ _ _ _ (congrArg some (row_bs _))
 · exact by_2 _ _ _ _ (congrArg some (row_bs _))
 · exact by_3 _ _ _ _ (congrArg some (row_bs _))
 · exact by_4 _ _ _ _ (congrArg some (row_bs _))
theorem fld0 (x y z u:Value) (w:World):(Instr.field 79 (.agg #[x,y,z,u]) 0).run Tryz.prog w = .ok x w:=by kernel_rfl
theorem fld1 (x y z u:Value) (w:World):(Instr.field 79 (.agg #[x,y,z,u]) 1).run Tryz.prog w = .ok y w:=by kernel_rfl
theorem fld2 (x y z u:Value) (w:World):(Instr.field 79 (.agg #[x,y,z,u]) 2).run Tryz.prog w = .ok z w:=by kernel_rfl
theorem fld3 (x y z u:Value) (w:World):(Instr.field 79 (.agg #[x,y,z,u]) 3).run Tryz.prog w = .ok u w:=by kernel_rfl
theorem width_core (no:Int) (x y z:ByteArray) (n:Int) (c1:KMk Tabs 58 #[.int .i64 no] (.agg #[.string x,.int .i64 n,.string y,.string z])):KMk Tabs 29 #[.int .i64 no] (.int .i64 n):=by
 intro w hT
 have HS:=lH (Since.refl w)
 have HT:=lH hT
 have f0:=fld0 (.string x) (.int .i64 n) (.string y) (.string z)
 have f1:=fld1 (.string x) (.int .i64 n) (.string y) (.string z)
 clear hT
 go_enter Tryz.func29,Tryz.ntmps29
 go_wp2_with fail
 repeat (with_reducible refine c1.calls0 HT.out ?_; intro wz hz; replace HT:=lH (Kp.keep HT.out hz); replace HS:=lH (HS.out.step hz); clear hz; try go_wp2_with fail)
 go_ret
 exact ⟨rfl,HS.out⟩
theorem width_k (no:Int) (X:Int) (hX:X = (rowOf no).2.1):KMk Tabs 29 #[.int .i64 no] (.int .i64 X):=by
 subst hX
 exact width_core no _ _ _ _ (by_k no)
def ordS (r:Row):ByteArray:=Dig.unS r.2.2.2
theorem order_core (no:Int) (x y z X:ByteArray) (n:Int) (q:Bool) (c1:KMk Tabs 58 #[.int .i64 no] (.agg #[.string x,.int .i64 n,.string y,.string z])) (c2:Mak 103 #[.string z] (.tuple #[.string X,.bool q])):KMk Tabs 66 #[.int .i64 no] (.string X):=by
 intro w hT
 have HS:=lH (Since.refl w)
 have HT:=lH hT
 have f0:=fld3 (.string x) (.int .i64 n) (.string y) (.string z)
 clear hT
 go_enter Tryz.func66,Tryz.ntmps66
 go_wp2_with fail
 repeat ((first | with_reducible refine c1.calls0 HT.out ?_ | with_reducible refine c2.calls0 ?_); intro wz hz; replace HT:=lH (Kp.keep HT.out hz); replace HS:=lH (HS.out.step hz); clear hz; try go_wp2_with fail)
 go_ret
 exact ⟨rfl,HS.out⟩
theorem row_even (no:Int):(rowOf no).2.2.2.length <= 200 /\ (rowOf no).2.2.2.length % 2 = 0:=by
 rcases row_cases no with h | rfl | rfl | rfl | rfl
 · rw [rowOf_out no h]; decide +kernel
 · decide +kernel
 · decide +kernel
 · decide +kernel
 · decide +kernel
theorem unhex_ev (s:ByteArray) (hm:s.size <= 200) (h:s.size % 2 = 0):Mak 103 #[.string s] (.tuple #[.string (Dig.unS s.data.toList),.bool (Dig.unB s.data.toList)]):=by
 have hl:s.data.toList.length = s.size:=rfl
 have e:Dig.unB s.data.toList = Dig.okN s.data.toList (s.size / 2):=by
   unfold Dig.unB
   rw [hl,decide_eq_true h,Bool.true_and]
 exact fun w => Dig.unhex_even s (s.size / 2) w (by omega) (by omega) _ _ e (by unfold Dig.unS; rw [e,hl])
theorem order_k (no:Int) (X:ByteArray) (hX:X = ordS (rowOf no)):KMk Tabs 66 #[.int .i64 no] (.string X):=by
 subst hX
 obtain ⟨h1,h2⟩:=row_even no
 have hz:(bs (rowOf no).2.2.2).size = (rowOf no).2.2.2.length:=by
   show (bs (rowOf no).2.2.2).data.toList.length = _
   rw [list_bs]
 have c2:=unhex_ev (bs (rowOf no).2.2.2) (by omega) (by omega)
 rw [list_bs] at c2
 exact order_core no _ _ _ _ _ _ (by_k no) c2
def KMkI (K:World -> Prop) (f:Nat) (args:Array Value) (xs:List Int):Prop:=∀ w,K w -> Calls Tryz.prog f args w fun e w' => ∃ v,e = .returned v /\ IntsS w' v xs /\ Below w.heap.size w w'
theorem arcs_core (no:Int) (x y z:ByteArray) (n:Int) (q:Bool) (xs:List Int) (c1:KMk Tabs 58 #[.int .i64 no] (.agg #[.string x,.int .i64 n,.string y,.string z])) (c2:MkI 71 #[.string y] xs q):KMkI Tabs 38 #[.int .i64 no] xs:=by
 intro w hT
 have HS:=lH (Since.refl w)
 have HT:=lH hT
 have f0:=fld2 (.string x) (.int .i64 n) (.string y) (.string z)
 clear hT
 go_enter Tryz.func38,Tryz.ntmps38
 go_wp2_with fail
 repeat (with_reducible refine c1.calls0 HT.out ?_; intro wz hz; replace HT:=lH (Kp.keep HT.out hz); replace HS:=lH (HS.out.step hz); clear hz; try go_wp2_with fail)
 refine (c2.calls0) ?_
 intro v1 w1 hv1 h1
 have HV1:=lH hv1
 clear hv1
 replace HS:=lH (HS.out.step (Up.up h1))
 clear h1
 go_wp2_with fail
 go_ret
 exact ⟨_,rfl,HV1.out,HS.out⟩
def arcsL (r:Row):List Int:=Oid.parL r.2.2.1
theorem row_short (no:Int):(rowOf no).2.2.1.length <= 200:=by
 rcases row_cases no with h | rfl | rfl | rfl | rfl
 · rw [rowOf_out no h]; decide +kernel
 · decide +kernel
 · decide +kernel
 · decide +kernel
 · decide +kernel
theorem arcs_k (no:Int) (xs:List Int) (hX:xs = arcsL (rowOf no)):KMkI Tabs 38 #[.int .i64 no] xs:=by
 subst hX
 have h1:=row_short no
 have hz:(bs (rowOf no).2.2.1).size = (rowOf no).2.2.1.length:=by
   show (bs (rowOf no).2.2.1).data.toList.length = _
   rw [list_bs]
 have c2:=Oid.parse_mk (bs (rowOf no).2.2.1) (by omega) _ _ rfl rfl
 rw [list_bs] at c2
 exact arcs_core no _ _ _ _ _ _ (by_k no) c2
end Curve
namespace Curve
def fndL (p:Row -> Bool):List Row -> Nat -> Int × Bool
 | [],_ => (0,false)
 | r :: l,k => if p r then ((k:Int) + 1,true) else fndL p l (k + 1)
def KS (b:Nat) (s:ByteArray):World -> Prop:=fun w => w.cell? ⟨b,0,none⟩ = some (.string s)
instance (b:Nat) (s:ByteArray):Kp (KS b s):=⟨fun h hb => (hb.cell (p:=⟨b,0,none⟩) (block_lt_of_cell h)).trans h⟩
def KI (b:Nat) (s:Int):World -> Prop:=fun w => w.cell? ⟨b,0,none⟩ = some (.int .i64 s)
instance (b:Nat) (s:Int):Kp (KI b s):=⟨fun h hb => (hb.cell (p:=⟨b,0,none⟩) (block_lt_of_cell h)).trans h⟩
set_option maxHeartbeats 4000000 in
theorem find_by (K:World -> Prop) [Kp K] (hKT:∀ w,K w -> Tabs w) (p:Row -> Bool) (cap:Value) (hp:∀ r,KMk K 55 #[rowV r,cap] (.bool (p r))) (n:Int) (q:Bool) (hn:fndL p rows 0 = (n,q)):KMk K 54 #[.func (.func 55) #[] #[cap]] (.tuple #[.int .i64 n,.bool q]):=by
 intro w hT
 have hl:=load_all (hKT w hT)
 obtain ⟨D,hD⟩:∃ D,D = cells:=⟨_,rfl⟩
 rw [<- hD] at hl
 have HX:Hid (∀ (i:Nat) r,rows[i]? = some r -> ∀ W,(Instr.index 125 (.agg D) (.int .i64 (i:Int))).run Tryz.prog W = .ok (.agg #[.string (bs r.1),.int .i64 r.2.1,.string (bs r.2.2.1),.string (bs r.2.2.2)]) W):=lH (fun i r h W => by rw [hD]; exact index_at i r h W)
 have Hl:=lH hl
 have HP:=lH hp
 have HT:=lH hT
 have HN:=lH hn
 clear hT hD hl hp hn hKT
 go_enter Tryz.func54,Tryz.ntmps54
 go_wp2_with ((with_reducible refine wpList_load_run _ _ _ _ (.agg D) ?_ Hl.out ?_) <;> try rfl)
 go_loopw [7] (fun i wr => ∃ k:Nat,k <= 4 /\ i = .int .i64 (k:Int) /\ Hid (fndL p (rows.drop k) k = (n,q)) /\ Hid (K wr) /\ Hid (Since w wr)) (fun i _ => 4 - (intOf i).toNat)
 case atStart => exact ⟨0,by omega,rfl,HN,HT,lH (Since.refl _)⟩
 case round =>
   clear HN HT
   obtain ⟨k,hk,rfl,HN,HT,HS⟩:=hrel
   by_cases hlt2:k < 4
   · obtain ⟨r,hr⟩:∃ r,rows[k]? = some r:=⟨rows[k]'hlt2,List.getElem?_eq_getElem _⟩
     have hix:=HX.out k r hr
     have c1:=HP.out r
     have hd:=HN.out
     rw [List.drop_eq_getElem_cons (show k < rows.length from hlt2),(List.getElem?_eq_some_iff.1 hr).2] at hd
     unfold fndL at hd
     have HT1:=lH (Kp.keep HT.out ((Since.alloc (Since.refl wr) (.cells #[.string ⟨#[]⟩,.int .i64 0,.string ⟨#[]⟩,.string ⟨#[]⟩] 79))))
     unfold rowV at c1
     obtain ⟨b,hb⟩:∃ b,b = p r:=⟨_,rfl⟩
     rw [<- hb] at hd c1
     generalize bs r.1 = g0 at hix c1
     generalize r.2.1 = g1 at hix c1
     generalize bs r.2.2.1 = g2 at hix c1
     generalize bs r.2.2.2 = g3 at hix c1
     have HT2:=lH (Kp.keep HT.out ((Since.alloc (Since.refl wr) (.cells #[.string g0,.int .i64 g1,.string g2,.string g3] 79))))
     have HS2:=lH (HS.out.alloc (.cells #[.string g0,.int .i64 g1,.string g2,.string g3] 79))
     clear hb hr
     cases b
     · rw [if_neg (by decide)] at hd
       have HN2:=lH hd
       clear hd HN HT HS HT1
       go_wp2_with fail
       refine c1.calls0 HT2.out ?_
       intro wy hy
       have HT3:=lH (Kp.keep HT2.out hy)
       have HS3:=lH (HS2.out.step hy)
       clear hy
       go_wp2_with fail
       go_roundw
       case rel => exact ⟨k + 1,by omega,by go_num,HN2,HT3,HS3⟩
       case measure => simp [intOf]; omega
     · rw [if_pos rfl] at hd
       cases hd
       clear HN HT HS HT1
       go_wp2_with fail
       refine c1.calls0 HT2.out ?_
       intro wy hy
       have HS3:=lH (HS2.out.step hy)
       clear hy
       go_wp2_with fail
       go_ret2
       exact ⟨rfl,HS3.out⟩
   · obtain rfl:k = 4:=by omega
     have hd:=HN.out
     cases hd
     go_wp2_with fail
     go_ret2
     exact ⟨rfl,HS.out⟩
theorem by1_mk (b:Nat) (s:ByteArray) (x y z:ByteArray) (n:Int) (q:Bool) (hq:q = (y.toList == s.toList)):KMk (KS b s) 55 #[.agg #[.string x,.int .i64 n,.string y,.string z],.pointer (some ⟨b,0,none⟩)] (.bool q):=by
 intro w hT
 have m0:w.cell? ⟨b,0,none⟩ = some (.string s):=hT
 have hlt:=block_lt_of_cell m0
 have t1:=hq.symm
 clear hT hq
 go_enter Tryz.func55,Tryz.ntmps55
 go_wp2_with fail
 go_ret
 exact ⟨rfl,Since.alloc (Since.refl w) _⟩
def takes (s:ByteArray) (r:Row):Bool:=r.2.2.1 == s.data.toList
theorem by_core (xs:List Int) (s:ByteArray) (n:Int) (q:Bool) (hn:fndL (takes s) rows 0 = (n,q)) (c1:Oid.RdI 53 xs (.string s)) (w:World) (x:Value) (hx:IntsS w x xs) (hT:Tabs w):Calls Tryz.prog 25 #[x] w fun e w' => e = .returned (.tuple #[.int .i64 n,.bool q]) /\ Below w.heap.size w w':=by
 have HS:=lH (Since.refl w)
 have HT:=lH hT
 have HN:=lH hn
 clear hT hn
 go_enter Tryz.func25,Tryz.ntmps25
 go_wp2_with fail
 refine (c1.calls0 hx) ?_
 intro w1 h1
 replace HS:=lH (HS.out.step (Up.up h1))
 clear h1
 go_wp2_with fail
 have HT2:=lH (Kp.keep HT.out HS.out)
 have hk:KS w1.heap.size s (w1.alloc (.cells #[.string s] 9)):=(Boxed.new w1 _ _).cell
 have c2:=find_by (fun w => Tabs w /\ KS w1.heap.size s w) (fun w h => h.1) (takes s) (.pointer (some ⟨w1.heap.size,0,none⟩)) (fun r => KMk.weak (by1_mk w1.heap.size s _ _ _ _ _ (by rw [toList_d,toList_d,list_bs]; rfl)) (fun w h => h.2)) n q HN.out
 have hkk:Tabs (w1.alloc (.cells #[.string s] 9)) /\ KS w1.heap.size s (w1.alloc (.cells #[.string s] 9)):=⟨Kp.keep HT2.out (Since.alloc (Since.refl w1) _),hk⟩
 have HKK:=lH hkk
 clear hk hkk
 refine c2.calls0 HKK.out ?_
 intro w2 h2
 replace HS:=lH (HS.out.step ((Since.alloc (Since.refl w1) _).step h2))
 clear h2
 go_wp2_with fail
 go_ret2
 exact ⟨rfl,HS.out⟩
end Curve
namespace Curve
theorem scalar_e (no:Int):Ret 32 #[.int .i64 no,.string ⟨#[]⟩] (.bool false):=by
 intro w
 go_enter Tryz.func32,Tryz.ntmps32
 go_wp2_with fail
 go_ret
 exact ⟨rfl,rfl⟩
theorem scalar_w (no n:Int) (s:ByteArray) (hs:0 < s.size) (hz:((s.size:Int) == n) = false) (c1:KMk Tabs 29 #[.int .i64 no] (.int .i64 n)):KMk Tabs 32 #[.int .i64 no,.string s] (.bool false):=by
 intro w hT
 have HS:=lH (Since.refl w)
 have HT:=lH hT
 have b1:=some_bytes s hs
 have b2:=some_bytes_f s hs
 clear hT
 go_enter Tryz.func32,Tryz.ntmps32
 go_wp2_with fail
 repeat (with_reducible refine c1.calls0 HT.out ?_; intro wz hz; replace HT:=lH (Kp.keep HT.out hz); replace HS:=lH (HS.out.step hz); clear hz; try go_wp2_with fail)
 go_ret
 exact ⟨rfl,HS.out⟩
theorem scalar_y (no n:Int) (s:ByteArray) (hs:0 < s.size) (hz:((s.size:Int) == n) = true) (c1:KMk Tabs 29 #[.int .i64 no] (.int .i64 n)) (c2:Mak 65 #[.string s,.string ⟨#[0]⟩] (.string ⟨#[]⟩)):KMk Tabs 32 #[.int .i64 no,.string s] (.bool false):=by
 intro w hT
 have HS:=lH (Since.refl w)
 have HT:=lH hT
 have b1:=some_bytes s hs
 have b2:=some_bytes_f s hs
 clear hT
 go_enter Tryz.func32,Tryz.ntmps32
 go_wp2_with fail
 repeat ((first | with_reducible refine c1.calls0 HT.out ?_ | with_reducible refine c2.calls0 ?_); intro wz hz; replace HT:=lH (Kp.keep HT.out hz); replace HS:=lH (HS.out.step hz); clear hz; try go_wp2_with fail)
 go_ret
 exact ⟨rfl,HS.out⟩
theorem scalar_l (no n:Int) (s Y Z:ByteArray) (q:Bool) (hs:0 < s.size) (hy:0 < Y.size) (hz:((s.size:Int) == n) = true) (hq:Op.bytesLess s.toList Z.toList = q) (c1:KMk Tabs 29 #[.int .i64 no] (.int .i64 n)) (c2:Mak 65 #[.string s,.string ⟨#[0]⟩] (.string Y)) (c3:KMk Tabs 66 #[.int .i64 no] (.string Z)):KMk Tabs 32 #[.int .i64 no,.string s] (.bool q):=by
 intro w hT
 have HS:=lH (Since.refl w)
 have HT:=lH hT
 have b1:=some_bytes s hs
 have b2:=some_bytes_f s hs
 have b3:=some_bytes Y hy
 have b4:=some_bytes_f Y hy
 clear hT
 cases q
 all_goals
   go_enter Tryz.func32,Tryz.ntmps32
   go_wp2_with fail
   repeat ((first | with_reducible refine c1.calls0 HT.out ?_ | with_reducible refine c2.calls0 ?_ | with_reducible refine c3.calls0 HT.out ?_); intro wz hz; replace HT:=lH (Kp.keep HT.out hz); replace HS:=lH (HS.out.step hz); clear hz; try go_wp2_with fail)
   go_ret
   exact ⟨rfl,HS.out⟩
def scB (r:Row) (s:List UInt8):Bool:=decide (s ≠ []) && decide ((s.length:Int) = r.2.1) && s.any (· != 0) && Op.bytesLess s (ordS r).data.toList
theorem any_trim (s:List UInt8):s.any (· != 0) = !(Trim.left 0 (Trim.right 0 s)).isEmpty:=by
 rw [Bool.eq_iff_iff,List.any_eq_true,Bool.not_eq_true',List.isEmpty_eq_false_iff]
 constructor
 · rintro ⟨x,hx,h2⟩ h3
   exact (bne_iff_ne.1 h2) ((Trim.trim_all 0 s).1 h3 x hx)
 · intro h
   apply Classical.byContradiction
   intro h2
   refine h ((Trim.trim_all 0 s).2 fun x hx => Classical.byContradiction fun h3 => h2 ⟨x,hx,by rw [bne_iff_ne]; exact h3⟩)
theorem scalar_k (no:Int) (s:ByteArray) (hm:s.size <= 140737488355328) (q:Bool) (hq:q = scB (rowOf no) s.data.toList):KMk Tabs 32 #[.int .i64 no,.string s] (.bool q):=by
 have hl:s.data.toList.length = s.size:=rfl
 have c1:=width_k no _ rfl
 have c3:=order_k no _ rfl
 have c2:=Trim.trim_mak s hm 0 (by decide) _ rfl
 unfold scB at hq
 by_cases hs:0 < s.size
 · rw [decide_eq_true (show s.data.toList ≠ [] from fun h => by rw [h] at hl; have h9:([]:List UInt8).length = 0:=rfl; omega),Bool.true_and,hl] at hq
   by_cases hz:(s.size:Int) = (rowOf no).2.1
   · rw [decide_eq_true hz,Bool.true_and,any_trim] at hq
     by_cases hy:Trim.left 0 (Trim.right 0 s.data.toList) = []
     · rw [hy] at hq c2
       have:q = false:=hq
       subst this
       exact scalar_y no _ s hs (beq_iff_eq.2 hz) c1 c2
     · have h3:(Trim.left 0 (Trim.right 0 s.data.toList)).isEmpty = false:=by rw [List.isEmpty_eq_false_iff]; exact hy
       rw [h3,Bool.not_false,Bool.true_and] at hq
       refine scalar_l no _ s _ _ q hs ?_ (beq_iff_eq.2 hz) (by rw [toList_d,toList_d]; exact hq.symm) c1 c2 c3
       show 0 < (bs (Trim.left 0 (Trim.right 0 s.data.toList))).data.toList.length
       rw [list_bs]
       exact List.length_pos_iff.2 hy
   · rw [decide_eq_false hz] at hq
     have:q = false:=hq
     subst this
     exact scalar_w no _ s hs (beq_eq_false_iff_ne.2 hz) c1
 · obtain rfl:s = ⟨#[]⟩:=ba_ext (List.eq_nil_of_length_eq_zero (by omega))
   have:q = false:=hq
   subst this
   exact (scalar_e no).k
end Curve
namespace Curve
theorem rw_1:Ret 15 #[.int .i64 1] (.int .i64 28):=by
 intro w
 go_enter Tryz.func15,Tryz.ntmps15
 go_wp2_with fail
 go_ret
 exact ⟨rfl,rfl⟩
theorem rw_2:Ret 15 #[.int .i64 2] (.int .i64 32):=by
 intro w
 go_enter Tryz.func15,Tryz.ntmps15
 go_wp2_with fail
 go_ret
 exact ⟨rfl,rfl⟩
theorem rw_3:Ret 15 #[.int .i64 3] (.int .i64 48):=by
 intro w
 go_enter Tryz.func15,Tryz.ntmps15
 go_wp2_with fail
 go_ret
 exact ⟨rfl,rfl⟩
theorem rw_4:Ret 15 #[.int .i64 4] (.int .i64 66):=by
 intro w
 go_enter Tryz.func15,Tryz.ntmps15
 go_wp2_with fail
 go_ret
 exact ⟨rfl,rfl⟩
theorem rw_no (k:Int) (h:k < 1 ∨ 4 < k):Ret 15 #[.int .i64 k] (.int .i64 0):=by
 intro w
 have a1:(k == 1) = false:=by rw [beq_eq_false_iff_ne]; omega
 have a2:(k == 2) = false:=by rw [beq_eq_false_iff_ne]; omega
 have a3:(k == 3) = false:=by rw [beq_eq_false_iff_ne]; omega
 have a4:(k == 4) = false:=by rw [beq_eq_false_iff_ne]; omega
 clear h
 go_enter Tryz.func15,Tryz.ntmps15
 go_wp2_with fail
 go_ret
 exact ⟨rfl,rfl⟩
theorem rwidth_ret (no X:Int) (hX:X = (rowOf no).2.1):Ret 15 #[.int .i64 no] (.int .i64 X):=by
 subst hX
 rcases row_cases no with h | rfl | rfl | rfl | rfl
 · rw [rowOf_out no h]; exact rw_no no h
 · exact rw_1
 · exact rw_2
 · exact rw_3
 · exact rw_4
def KAll:World -> Prop:=fun _ => True
instance:Kp KAll:=⟨fun _ _ => trivial⟩
def lit1:List Int:=[1,3,132,0,33]
def lit2:List Int:=[1,2,840,10045,3,1,7]
def lit3:List Int:=[1,3,132,0,34]
def lit4:List Int:=[1,3,132,0,35]
theorem arcs_lit (t:List UInt8) (l:List Int) (h1:Oid.Ok l) (h2:Oid.txt l = t):Oid.parB t = true /\ Oid.parL t = l:=(Oid.par_iff t l).2 ⟨h1,h2⟩
theorem arcs_1:Oid.parB (rowOf 1).2.2.1 = true /\ arcsL (rowOf 1) = lit1:=arcs_lit _ _ (by unfold lit1 Oid.Ok; decide) (by unfold lit1; decide +kernel)
theorem arcs_2:Oid.parB (rowOf 2).2.2.1 = true /\ arcsL (rowOf 2) = lit2:=arcs_lit _ _ (by unfold lit2 Oid.Ok; decide) (by unfold lit2; decide +kernel)
theorem arcs_3:Oid.parB (rowOf 3).2.2.1 = true /\ arcsL (rowOf 3) = lit3:=arcs_lit _ _ (by unfold lit3 Oid.Ok; decide) (by unfold lit3; decide +kernel)
theorem arcs_4:Oid.parB (rowOf 4).2.2.1 = true /\ arcsL (rowOf 4) = lit4:=arcs_lit _ _ (by unfold lit4 Oid.Ok; decide) (by unfold lit4; decide +kernel)
theorem arcs_0:arcsL noneR = []:=(Oid.par_none [] (by decide +kernel)).1
theorem ra_1:KMkI KAll 18 #[.int .i64 1] lit1:=by
 intro w _
 have hl:=SlR.lit w 1 5 (lit1.map (Value.int .i64)) rfl (by decide) _ rfl 3
 have HL:=lH hl
 clear hl
 go_enter Tryz.func18,Tryz.ntmps18
 go_wp2_with fail
 go_ret
 exact ⟨_,rfl,HL.out,Since.alloc (Since.refl w) _⟩
theorem ra_2:KMkI KAll 18 #[.int .i64 2] lit2:=by
 intro w _
 have hl:=SlR.lit w 1 7 (lit2.map (Value.int .i64)) rfl (by decide) _ rfl 3
 have HL:=lH hl
 clear hl
 go_enter Tryz.func18,Tryz.ntmps18
 go_wp2_with fail
 go_ret
 exact ⟨_,rfl,HL.out,Since.alloc (Since.refl w) _⟩
theorem ra_3:KMkI KAll 18 #[.int .i64 3] lit3:=by
 intro w _
 have hl:=SlR.lit w 1 5 (lit3.map (Value.int .i64)) rfl (by decide) _ rfl 3
 have HL:=lH hl
 clear hl
 go_enter Tryz.func18,Tryz.ntmps18
 go_wp2_with fail
 go_ret
 exact ⟨_,rfl,HL.out,Since.alloc (Since.refl w) _⟩
theorem ra_4:KMkI KAll 18 #[.int .i64 4] lit4:=by
 intro w _
 have hl:=SlR.lit w 1 5 (lit4.map (Value.int .i64)) rfl (by decide) _ rfl 3
 have HL:=lH hl
 clear hl
 go_enter Tryz.func18,Tryz.ntmps18
 go_wp2_with fail
 go_ret
 exact ⟨_,rfl,HL.out,Since.alloc (Since.refl w) _⟩
theorem ra_no (k:Int) (h:k < 1 ∨ 4 < k):Ret 18 #[.int .i64 k] (.slice none 0 0):=by
 intro w
 have a1:(k == 1) = false:=by rw [beq_eq_false_iff_ne]; omega
 have a2:(k == 2) = false:=by rw [beq_eq_false_iff_ne]; omega
 have a3:(k == 3) = false:=by rw [beq_eq_false_iff_ne]; omega
 have a4:(k == 4) = false:=by rw [beq_eq_false_iff_ne]; omega
 clear h
 go_enter Tryz.func18,Tryz.ntmps18
 go_wp2_with fail
 go_ret
 exact ⟨rfl,rfl⟩
theorem rarcs_k (no:Int) (xs:List Int) (hX:xs = arcsL (rowOf no)):KMkI KAll 18 #[.int .i64 no] xs:=by
 subst hX
 rcases row_cases no with h | rfl | rfl | rfl | rfl
 · rw [rowOf_out no h,arcs_0]
   exact fun w _ => (ra_no no h w).mono fun _ w' ⟨he,hw⟩ => ⟨_,he,IntsS.nil w',by subst hw; exact Since.refl _⟩
 · rw [arcs_1.2]; exact ra_1
 · rw [arcs_2.2]; exact ra_2
 · rw [arcs_3.2]; exact ra_3
 · rw [arcs_4.2]; exact ra_4
def o1:ByteArray:=bs (rowOf 1).2.2.2
set_option maxHeartbeats 1000000 in
theorem ro_1 (z X:ByteArray) (hz:z = bs (rowOf 1).2.2.2) (q:Bool) (c1:Mak 75 #[.string z] (.tuple #[.string X,.bool q])):Mak 42 #[.int .i64 1] (.string X):=by
 intro w
 have HS:=lH (Since.refl w)
 subst hz
 go_enter Tryz.func42,Tryz.ntmps42
 go_wp2_with fail
 refine c1.calls HS.out ?_
 intro w1 h1
 replace HS:=lH h1
 clear h1
 go_wp2_with fail
 go_ret
 exact ⟨rfl,HS.out⟩
set_option maxHeartbeats 1000000 in
theorem ro_2 (z X:ByteArray) (hz:z = bs (rowOf 2).2.2.2) (q:Bool) (c1:Mak 75 #[.string z] (.tuple #[.string X,.bool q])):Mak 42 #[.int .i64 2] (.string X):=by
 intro w
 have HS:=lH (Since.refl w)
 subst hz
 go_enter Tryz.func42,Tryz.ntmps42
 go_wp2_with fail
 refine c1.calls HS.out ?_
 intro w1 h1
 replace HS:=lH h1
 clear h1
 go_wp2_with fail
 go_ret
 exact ⟨rfl,HS.out⟩
set_option maxHeartbeats 1000000 in
theorem ro_3 (z X:ByteArray) (hz:z = bs (rowOf 3).2.2.2) (q:Bool) (c1:Mak 75 #[.string z] (.tuple #[.string X,.bool q])):Mak 42 #[.int .i64 3] (.string X):=by
 intro w
 have HS:=lH (Since.refl w)
 subst hz
 go_enter Tryz.func42,Tryz.ntmps42
 go_wp2_with fail
 refine c1.calls HS.out ?_
 intro w1 h1
 replace HS:=lH h1
 clear h1
 go_wp2_with fail
 go_ret
 exact ⟨rfl,HS.out⟩
set_option maxHeartbeats 1000000 in
theorem ro_4 (z X:ByteArray) (hz:z = bs (rowOf 4).2.2.2) (q:Bool) (c1:Mak 75 #[.string z] (.tuple #[.string X,.bool q])):Mak 42 #[.int .i64 4] (.string X):=by
 intro w
 have HS:=lH (Since.refl w)
 subst hz
 go_enter Tryz.func42,Tryz.ntmps42
 go_wp2_with fail
 refine c1.calls HS.out ?_
 intro w1 h1
 replace HS:=lH h1
 clear h1
 go_wp2_with fail
 go_ret
 exact ⟨rfl,HS.out⟩
theorem ro_no (k:Int) (h:k < 1 ∨ 4 < k) (X:ByteArray) (q:Bool) (c1:Mak 75 #[.string ⟨#[]⟩] (.tuple #[.string X,.bool q])):Mak 42 #[.int .i64 k] (.string X):=by
 intro w
 have HS:=lH (Since.refl w)
 have a1:(k == 1) = false:=by rw [beq_eq_false_iff_ne]; omega
 have a2:(k == 2) = false:=by rw [beq_eq_false_iff_ne]; omega
 have a3:(k == 3) = false:=by rw [beq_eq_false_iff_ne]; omega
 have a4:(k == 4) = false:=by rw [beq_eq_false_iff_ne]; omega
 clear h
 go_enter Tryz.func42,Tryz.ntmps42
 go_wp2_with fail
 repeat (with_reducible refine c1.calls HS.out ?_; intro wz hz; replace HS:=lH hz; clear hz; try go_wp2_with fail)
 go_ret
 exact ⟨rfl,HS.out⟩
theorem runhex_ev (s:ByteArray) (hm:s.size <= 200) (h:s.size % 2 = 0):Mak 75 #[.string s] (.tuple #[.string (Dig.unS s.data.toList),.bool (Dig.unB s.data.toList)]):=by
 have hl:s.data.toList.length = s.size:=rfl
 have e:Dig.unB s.data.toList = Dig.okN s.data.toList (s.size / 2):=by
   unfold Dig.unB
   rw [hl,decide_eq_true h,Bool.true_and]
 exact fun w => RefDig.unhex_even s (s.size / 2) w (by omega) (by omega) _ _ e (by unfold Dig.unS; rw [e,hl])
theorem rorder_mak (no:Int) (X:ByteArray) (hX:X = ordS (rowOf no)):Mak 42 #[.int .i64 no] (.string X):=by
 subst hX
 obtain ⟨h1,h2⟩:=row_even no
 have hz:(bs (rowOf no).2.2.2).size = (rowOf no).2.2.2.length:=by
   show (bs (rowOf no).2.2.2).data.toList.length = _
   rw [list_bs]
 have c2:=runhex_ev (bs (rowOf no).2.2.2) (by omega) (by omega)
 rw [list_bs] at c2
 rcases row_cases no with h | rfl | rfl | rfl | rfl
 · rw [rowOf_out no h] at c2 ⊢; exact ro_no no h _ _ c2
 · exact ro_1 _ _ rfl _ c2
 · exact ro_2 _ _ rfl _ c2
 · exact ro_3 _ _ rfl _ c2
 · exact ro_4 _ _ rfl _ c2
end Curve
namespace Curve
theorem rowOf_at (i:Nat) (r:Row) (h:rows[i]? = some r):rowOf ((i:Int) + 1) = r:=by
 have hi:i < 4:=(List.getElem?_eq_some_iff.1 h).1
 unfold rowOf
 rw [if_pos (by omega),show ((i:Int) + 1 - 1).toNat = i by omega,h]
 rfl
theorem fndL_step (p:Row -> Bool) (k:Nat) (r:Row) (h:rows[k]? = some r) (x:Int × Bool) (hx:fndL p (rows.drop k) k = x):(if p r then ((k:Int) + 1,true) else fndL p (rows.drop (k + 1)) (k + 1)) = x:=by
 have hk:k < rows.length:=(List.getElem?_eq_some_iff.1 h).1
 rw [List.drop_eq_getElem_cons hk,(List.getElem?_eq_some_iff.1 h).2] at hx
 exact hx
theorem fndL_congr (p p':Row -> Bool):∀ (l:List Row) (k:Nat),(∀ r ∈ l,p r = p' r) -> fndL p l k = fndL p' l k:=by
 intro l
 induction l with
 | nil => intro k _; rfl
 | cons r l ih =>
   intro k h
   unfold fndL
   rw [h r (by simp),ih (k + 1) (fun x hx => h x (by simp [hx]))]
theorem KMkI.calls0 {K:World -> Prop} {f:Nat} {args:Array Value} {xs:List Int} (h:KMkI K f args xs) {w:World} (hT:K w) {R:Ending -> World -> Prop} (k:∀ v w',IntsS w' v xs -> Since w w' -> R (.returned v) w'):Calls Tryz.prog f args w R :=
 (h w hT).mono fun _ _ ⟨v,he,hi,hb⟩ => by subst he; exact k v _ hi hb
def KRdI (K:World -> Prop) (f:Nat) (xs:List Int) (v:Value):Prop:=∀ w x,IntsS w x xs -> K w -> Calls Tryz.prog f #[x] w fun e w' => e = .returned v /\ Below w.heap.size w w'
theorem KRdI.calls0 {K:World -> Prop} {f:Nat} {xs:List Int} {v x:Value} (h:KRdI K f xs v) {w:World} (hx:IntsS w x xs) (hT:K w) {R:Ending -> World -> Prop} (k:∀ w',Since w w' -> R (.returned v) w'):Calls Tryz.prog f #[x] w R :=
 (h w x hx hT).mono fun _ _ ⟨he,hb⟩ => by subst he; exact k _ hb
def arcsF (xs:List Int):Int × Bool:=fndL (fun r => decide (arcsL r = xs)) rows 0
theorem row_arcs:∀ r ∈ rows,Oid.parB r.2.2.1 = true /\ r.2.2.1 ≠ []:=by
 intro r hr
 obtain ⟨j,hj,hj2⟩:=List.getElem_of_mem hr
 have h4:j < 4:=hj
 have h5:rows[j]? = some r:=by rw [List.getElem?_eq_getElem hj,hj2]
 have h6:=rowOf_at j r h5
 match j,h4,h6 with
 | 0,_,h => exact ⟨by rw [<- h]; exact arcs_1.1,by rw [<- h]; decide⟩
 | 1,_,h => exact ⟨by rw [<- h]; exact arcs_2.1,by rw [<- h]; decide⟩
 | 2,_,h => exact ⟨by rw [<- h]; exact arcs_3.1,by rw [<- h]; decide⟩
 | 3,_,h => exact ⟨by rw [<- h]; exact arcs_4.1,by rw [<- h]; decide⟩
theorem takes_arcs (xs:List Int):fndL (takes (Oid.txtS xs)) rows 0 = arcsF xs:=by
 refine fndL_congr _ _ _ _ fun r hr => ?_
 obtain ⟨h1,h2⟩:=row_arcs r hr
 have h3:=(Oid.par_iff r.2.2.1 (arcsL r)).1 ⟨h1,rfl⟩
 unfold takes Oid.txtS
 rw [Bool.eq_iff_iff,beq_iff_eq,decide_eq_true_iff]
 by_cases hk:Oid.Ok xs
 · rw [if_pos hk,list_bs]
   constructor
   · intro h; exact ((Oid.par_iff r.2.2.1 xs).2 ⟨hk,h.symm⟩).2
   · intro h; rw [<- h]; exact h3.2.symm
 · rw [if_neg hk]
   constructor
   · intro h; exact absurd h h2
   · intro h; exact absurd (h ▸ h3.1) hk
theorem by_rd (xs:List Int) (n:Int) (q:Bool) (hn:(n,q) = arcsF xs):KRdI Tabs 25 xs (.tuple #[.int .i64 n,.bool q]):=fun w x hx hT =>
 by_core xs (Oid.txtS xs) n q (by rw [takes_arcs,<- hn]) (Oid.text_rd xs _ rfl) w x hx hT
set_option maxHeartbeats 1000000 in
theorem rby_rd (xs:List Int) (n:Int) (q:Bool) (hn:(n,q) = arcsF xs):Oid.RdI 28 xs (.tuple #[.int .i64 n,.bool q]):=by
 intro w x hx
 have HN:=lH (show fndL (fun r => decide (arcsL r = xs)) rows 0 = (n,q) from hn.symm)
 have HX:=lH hx
 clear hn hx
 go_enter Tryz.func28,Tryz.ntmps28
 go_wp2_with fail
 go_loopw [4] (fun i wr => ∃ k:Nat,k <= 4 /\ i = .int .i64 ((k:Int) + 1) /\ Hid (fndL (fun r => decide (arcsL r = xs)) (rows.drop k) k = (n,q)) /\ Hid (Since w wr)) (fun i _ => 5 - (intOf i).toNat)
 case atStart => exact ⟨0,by omega,rfl,HN,lH (Since.refl w)⟩
 case round =>
   clear HN
   obtain ⟨k,hk,rfl,HN,HS⟩:=hrel
   by_cases hlt2:k < 4
   · obtain ⟨r,hr⟩:∃ r,rows[k]? = some r:=⟨rows[k]'hlt2,List.getElem?_eq_getElem _⟩
     have hd:=fndL_step _ k r hr _ HN.out
     obtain ⟨z,hz⟩:∃ z,z = arcsL r:=⟨_,rfl⟩
     have c1:=rarcs_k ((k:Int) + 1) z (by rw [rowOf_at k r hr]; exact hz)
     obtain ⟨b,hb⟩:∃ b,decide (arcsL r = xs) = b:=⟨_,rfl⟩
     have c2:Oid.RdII 57 z xs (.bool b):=same22_rd z xs b (by rw [hz]; exact hb.symm)
     have HA:=lH (HX.out.since HS.out)
     rw [hb] at hd
     clear hr hz hb
     cases b
     · rw [if_neg (by decide)] at hd
       have HN2:=lH hd
       clear hd HN
       go_wp2_with fail
       refine (c1.calls0 trivial) ?_
       intro v1 w1 hv1 h1
       have HV1:=lH hv1
       clear hv1
       replace HA:=lH (HA.out.since (Up.up h1))
       replace HS:=lH (HS.out.step (Up.up h1))
       clear h1
       go_wp2_with fail
       refine (c2.calls0 HV1.out HA.out) ?_
       intro w2 h2
       replace HS:=lH (HS.out.step (Up.up h2))
       clear h2
       go_wp2_with fail
       go_roundw
       case rel => exact ⟨k + 1,by omega,by go_num,HN2,HS⟩
       case measure => simp [intOf]; omega
     · rw [if_pos rfl] at hd
       cases hd
       clear HN
       go_wp2_with fail
       refine (c1.calls0 trivial) ?_
       intro v1 w1 hv1 h1
       have HV1:=lH hv1
       clear hv1
       replace HA:=lH (HA.out.since (Up.up h1))
       replace HS:=lH (HS.out.step (Up.up h1))
       clear h1
       go_wp2_with fail
       refine (c2.calls0 HV1.out HA.out) ?_
       intro w2 h2
       replace HS:=lH (HS.out.step (Up.up h2))
       clear h2
       go_wp2_with fail
       go_ret2
       exact ⟨rfl,HS.out⟩
   · obtain rfl:k = 4:=by omega
     have hd:=HN.out
     cases hd
     go_wp2_with fail
     go_ret2
     exact ⟨rfl,HS.out⟩
theorem rscalar_0 (no:Int) (s:ByteArray) (c1:Ret 15 #[.int .i64 no] (.int .i64 0)):Ret 16 #[.int .i64 no,.string s] (.bool false):=by
 intro w
 go_enter Tryz.func16,Tryz.ntmps16
 go_wp2_with fail
 repeat (with_reducible refine c1.calls ?_; try go_wp2_with fail)
 go_ret
 exact ⟨rfl,rfl⟩
theorem rscalar_w (no n:Int) (s:ByteArray) (hn:(n == 0) = false) (hz:((s.size:Int) != n) = true) (c1:Ret 15 #[.int .i64 no] (.int .i64 n)):Ret 16 #[.int .i64 no,.string s] (.bool false):=by
 intro w
 go_enter Tryz.func16,Tryz.ntmps16
 go_wp2_with fail
 repeat (with_reducible refine c1.calls ?_; try go_wp2_with fail)
 go_ret
 exact ⟨rfl,rfl⟩
theorem any_snoc (l:List UInt8) (k:Nat) (h:k < l.length):(l.take (k + 1)).any (· != 0) = ((l.take k).any (· != 0) || l[k] != 0):=by
 rw [List.take_succ_eq_append_getElem h,List.any_append]; simp
set_option maxHeartbeats 1000000 in
theorem rscalar_l (no n:Int) (s Z:ByteArray) (p q:Bool) (hm:s.size <= 140737488355328) (hn:(n == 0) = false) (hz:((s.size:Int) != n) = false) (hp:p = s.data.toList.any (· != 0)) (hq:Op.bytesLess s.toList Z.toList = q) (c1:Ret 15 #[.int .i64 no] (.int .i64 n)) (c3:Mak 42 #[.int .i64 no] (.string Z)):Mak 16 #[.int .i64 no,.string s] (.bool (p && q)):=by
 intro w
 have HS:=lH (Since.refl w)
 have HP:=lH hp
 clear hp
 go_enter Tryz.func16,Tryz.ntmps16
 go_wp2_with fail
 repeat (with_reducible refine c1.calls ?_; try go_wp2_with fail)
 go_loop [5,6] (fun b i => ∃ k:Nat,k <= s.size /\ i = .int .i64 (k:Int) /\ ∃ x:Bool,b = .bool x /\ Hid (x = (s.data.toList.take k).any (· != 0))) (fun _ i => s.size - (intOf i).toNat)
 case atStart => exact ⟨0,by omega,rfl,false,rfl,lH rfl⟩
 case round =>
   obtain ⟨k,hk,rfl,x,rfl,HX⟩:=hrel
   by_cases hlt:k < s.size
   · have hst:=any_snoc s.data.toList k hlt
     obtain ⟨y,hy⟩:∃ y,((s[k].toNat:Int) != 0) = y:=⟨_,rfl⟩
     have hy2:(s.data.toList[k]'hlt != 0) = y:=by
       rw [<- hy,Bool.eq_iff_iff,bne_iff_ne,bne_iff_ne]
       have e:s.data.toList[k]'hlt = s[k]:=rfl
       rw [e]
       exact not_congr ⟨fun h => by rw [h]; rfl,fun h => UInt8.toNat_inj.1 (by show s[k].toNat = 0; omega)⟩
     rw [hy2,<- HX.out] at hst
     clear hy2
     cases y
     · rw [Bool.or_false] at hst
       have HX2:=lH hst.symm
       clear hst HX
       go_wp2_with fail
       go_round
       case rel => exact ⟨k + 1,by omega,by go_num,x,rfl,HX2⟩
       case measure => simp [intOf]; omega
     · rw [Bool.or_true] at hst
       have HX2:=lH hst.symm
       clear hst HX
       go_wp2_with fail
       go_round
       case rel => exact ⟨k + 1,by omega,by go_num,true,rfl,HX2⟩
       case measure => simp [intOf]; omega
   · obtain rfl:k = s.size:=by omega
     have hxp:x = p:=by
       rw [HX.out,HP.out,List.take_of_length_le (show s.data.toList.length <= s.size from Nat.le_refl _)]
     subst hxp
     clear HX HP
     cases x
     · go_wp2_with fail
       go_ret
       exact ⟨rfl,HS.out⟩
     · go_wp2_with fail
       repeat (with_reducible refine c3.calls HS.out ?_; intro wz hz; replace HS:=lH hz; clear hz; try go_wp2_with fail)
       go_ret
       exact ⟨by rw [Bool.true_and]; first | rfl | rw [hq],HS.out⟩
theorem rscalar_mak (no:Int) (s:ByteArray) (hm:s.size <= 140737488355328) (q:Bool) (hq:q = scB (rowOf no) s.data.toList):Mak 16 #[.int .i64 no,.string s] (.bool q):=by
 have hl:s.data.toList.length = s.size:=rfl
 have c1:=rwidth_ret no _ rfl
 have c3:=rorder_mak no _ rfl
 unfold scB at hq
 rw [hl] at hq
 by_cases h0:(rowOf no).2.1 = 0
 · rw [h0] at c1 hq
   have:q = false:=by
     rw [hq]
     by_cases hs:s.data.toList = []
     · rw [hs]; rfl
     · have h9:s.size ≠ 0:=fun h => hs (List.eq_nil_of_length_eq_zero (by omega))
       rw [decide_eq_false (show ¬ ((s.size:Int) = 0) by omega),Bool.and_false]; rfl
   subst this
   exact (rscalar_0 no s c1).mak
 · by_cases hz:(s.size:Int) = (rowOf no).2.1
   · rw [decide_eq_true hz,Bool.and_true,decide_eq_true (show s.data.toList ≠ [] from fun h => by rw [h] at hl; have h9:([]:List UInt8).length = 0:=rfl; omega),Bool.true_and] at hq
     rw [hq]
     exact rscalar_l no _ s _ _ _ hm (beq_eq_false_iff_ne.2 h0) (bne_eq_false_iff_eq.2 hz) rfl (by rw [toList_d,toList_d]) c1 c3
   · rw [decide_eq_false hz,Bool.and_false] at hq
     have:q = false:=hq
     subst this
     exact (rscalar_w no _ s (beq_eq_false_iff_ne.2 h0) (bne_iff_ne.2 hz) c1).mak
end Curve
end Go.Proofs.YtpanhhjkecebkaaGreatDoor
