import Derived.Test.YtcdjfmlanicjlaaGreatDoorSl33
import Derived.Test.YtcdjfmlanicjlaaGreatDoorSl10
import Derived.Test.YtcdjfmlanicjlaaGreatDoorSl25
set_option maxRecDepth 100000
namespace Go.Proofs.YtcdjfmlanicjlaaGreatDoor
open Go.RowKit
namespace Curve
def rowOf (no:Int):Row:=if 1 <= no /\ no <= 4 then (rows[(no - 1).toNat]?).getD noneR else noneR
def rowV (r:Row):Value:=.agg #[.string (bs r.1),.int .i64 r.2.1,.string (bs r.2.2.1),.string (bs r.2.2.2)]
set_option maxHeartbeats 1000000 in
theorem by_1 (x y z:ByteArray) (n:Int) (hr:rows[0]? = some (x.data.toList,n,y.data.toList,z.data.toList)):KMk Tabs 100 #[.int .i64 1] (.agg #[.string x,.int .i64 n,.string y,.string z]):=by
 intro w hT
 have m0:w.cell? ⟨4,0,none⟩ = some (.string x):=by have:=hT 0 _ hr 0 _ rfl; rw [<- bs_list x]; exact this
 have m1:w.cell? ⟨4,1,none⟩ = some (.int .i64 n):=by have:=hT 0 _ hr 1 _ rfl; exact this
 have m2:w.cell? ⟨4,2,none⟩ = some (.string y):=by have:=hT 0 _ hr 2 _ rfl; rw [<- bs_list y]; exact this
 have m3:w.cell? ⟨4,3,none⟩ = some (.string z):=by have:=hT 0 _ hr 3 _ rfl; rw [<- bs_list z]; exact this
 have hlt:=hT.lt
 clear hT hr
 go_enter Tryz.func100,Tryz.ntmps100
 go_wp2_with fail
 exact bodyPost_ret (v:=.agg #[.string x,.int .i64 n,.string y,.string z]) (by simp [results,Tryz.results100,go_sem]; try rfl) rfl ⟨rfl,(Below.refl _ w).alloc (Nat.le_refl _) _⟩
set_option maxHeartbeats 1000000 in
theorem by_2 (x y z:ByteArray) (n:Int) (hr:rows[1]? = some (x.data.toList,n,y.data.toList,z.data.toList)):KMk Tabs 100 #[.int .i64 2] (.agg #[.string x,.int .i64 n,.string y,.string z]):=by
 intro w hT
 have m0:w.cell? ⟨4,4,none⟩ = some (.string x):=by have:=hT 1 _ hr 0 _ rfl; rw [<- bs_list x]; exact this
 have m1:w.cell? ⟨4,5,none⟩ = some (.int .i64 n):=by have:=hT 1 _ hr 1 _ rfl; exact this
 have m2:w.cell? ⟨4,6,none⟩ = some (.string y):=by have:=hT 1 _ hr 2 _ rfl; rw [<- bs_list y]; exact this
 have m3:w.cell? ⟨4,7,none⟩ = some (.string z):=by have:=hT 1 _ hr 3 _ rfl; rw [<- bs_list z]; exact this
 have hlt:=hT.lt
 clear hT hr
 go_enter Tryz.func100,Tryz.ntmps100
 go_wp2_with fail
 exact bodyPost_ret (v:=.agg #[.string x,.int .i64 n,.string y,.string z]) (by simp [results,Tryz.results100,go_sem]; try rfl) rfl ⟨rfl,(Below.refl _ w).alloc (Nat.le_refl _) _⟩
set_option maxHeartbeats 1000000 in
theorem by_3 (x y z:ByteArray) (n:Int) (hr:rows[2]? = some (x.data.toList,n,y.data.toList,z.data.toList)):KMk Tabs 100 #[.int .i64 3] (.agg #[.string x,.int .i64 n,.string y,.string z]):=by
 intro w hT
 have m0:w.cell? ⟨4,8,none⟩ = some (.string x):=by have:=hT 2 _ hr 0 _ rfl; rw [<- bs_list x]; exact this
 have m1:w.cell? ⟨4,9,none⟩ = some (.int .i64 n):=by have:=hT 2 _ hr 1 _ rfl; exact this
 have m2:w.cell? ⟨4,10,none⟩ = some (.string y):=by have:=hT 2 _ hr 2 _ rfl; rw [<- bs_list y]; exact this
 have m3:w.cell? ⟨4,11,none⟩ = some (.string z):=by have:=hT 2 _ hr 3 _ rfl; rw [<- bs_list z]; exact this
 have hlt:=hT.lt
 clear hT hr
 go_enter Tryz.func100,Tryz.ntmps100
 go_wp2_with fail
 exact bodyPost_ret (v:=.agg #[.string x,.int .i64 n,.string y,.string z]) (by simp [results,Tryz.results100,go_sem]; try rfl) rfl ⟨rfl,(Below.refl _ w).alloc (Nat.le_refl _) _⟩
set_option maxHeartbeats 1000000 in
theorem by_4 (x y z:ByteArray) (n:Int) (hr:rows[3]? = some (x.data.toList,n,y.data.toList,z.data.toList)):KMk Tabs 100 #[.int .i64 4] (.agg #[.string x,.int .i64 n,.string y,.string z]):=by
 intro w hT
 have m0:w.cell? ⟨4,12,none⟩ = some (.string x):=by have:=hT 3 _ hr 0 _ rfl; rw [<- bs_list x]; exact this
 have m1:w.cell? ⟨4,13,none⟩ = some (.int .i64 n):=by have:=hT 3 _ hr 1 _ rfl; exact this
 have m2:w.cell? ⟨4,14,none⟩ = some (.string y):=by have:=hT 3 _ hr 2 _ rfl; rw [<- bs_list y]; exact this
 have m3:w.cell? ⟨4,15,none⟩ = some (.string z):=by have:=hT 3 _ hr 3 _ rfl; rw [<- bs_list z]; exact this
 have hlt:=hT.lt
 clear hT hr
 go_enter Tryz.func100,Tryz.ntmps100
 go_wp2_with fail
 exact bodyPost_ret (v:=.agg #[.string x,.int .i64 n,.string y,.string z]) (by simp [results,Tryz.results100,go_sem]; try rfl) rfl ⟨rfl,(Below.refl _ w).alloc (Nat.le_refl _) _⟩
theorem by_out (no:Int) (h:no < 1 ∨ 4 < no):Mak 100 #[.int .i64 no] (.agg #[.string ⟨#[]⟩,.int .i64 0,.string ⟨#[]⟩,.string ⟨#[]⟩]):=by
 intro w
 by_cases h1:no < 1
 · clear h
   go_enter Tryz.func100,Tryz.ntmps100
   go_wp2_with fail
   exact bodyPost_ret (v:=.agg #[.string ⟨#[]⟩,.int .i64 0,.string ⟨#[]⟩,.string ⟨#[]⟩]) (by simp [results,Tryz.results100,go_sem]; try rfl) rfl ⟨rfl,(Below.refl _ w).alloc (Nat.le_refl _) _⟩
 · have h2:4 < no:=by omega
   clear h
   go_enter Tryz.func100,Tryz.ntmps100
   go_wp2_with fail
   exact bodyPost_ret (v:=.agg #[.string ⟨#[]⟩,.int .i64 0,.string ⟨#[]⟩,.string ⟨#[]⟩]) (by simp [results,Tryz.results100,go_sem]; try rfl) rfl ⟨rfl,(Below.refl _ w).alloc (Nat.le_refl _) _⟩
theorem row_bs (r:Row):r = ((bs r.1).data.toList,r.2.1,(bs r.2.2.1).data.toList,(bs r.2.2.2).data.toList):=by rw [list_bs,list_bs,list_bs]
theorem row_cases (no:Int):(no < 1 ∨ 4 < no) ∨ no = 1 ∨ no = 2 ∨ no = 3 ∨ no = 4:=by omega
theorem rowOf_out (no:Int) (h:no < 1 ∨ 4 < no):rowOf no = noneR:=if_neg (by omega)
theorem by_k (no:Int):KMk Tabs 100 #[.int .i64 no] (rowV (rowOf no)):=by
 rcases row_cases no with h | rfl | rfl | rfl | rfl
 · rw [rowOf_out no h]; exact (by_out no h).k
 · exact by_1 _ _ _ _ (congrArg some (row_bs _))
 · exact by_2 _ _ _ _ (congrArg some (row_bs _))
 · exact by_3 _ _ _ _ (congrArg some (row_bs _))
 · exact by_4 _ _ _ _ (congrArg some (row_bs _))
theorem fld0 (x y z u:Value) (w:World):(Instr.field 124 (.agg #[x,y,z,u]) 0).run Tryz.prog w = .ok x w:=by kernel_rfl
theorem fld1 (x y z u:Value) (w:World):(Instr.field 124 (.agg #[x,y,z,u]) 1).run Tryz.prog w = .ok y w:=by kernel_rfl
theorem fld3 (x y z u:Value) (w:World):(Instr.field 124 (.agg #[x,y,z,u]) 3).run Tryz.prog w = .ok u w:=by kernel_rfl
theorem width_core (no:Int) (x y z:ByteArray) (n:Int) (c1:KMk Tabs 100 #[.int .i64 no] (.agg #[.string x,.int .i64 n,.string y,.string z])):KMk Tabs 97 #[.int .i64 no] (.int .i64 n):=by
 intro w hT
 have HS:=lH (Since.refl w)
 have HT:=lH hT
 have f0:=fld0 (.string x) (.int .i64 n) (.string y) (.string z)
 have f1:=fld1 (.string x) (.int .i64 n) (.string y) (.string z)
 clear hT
 go_enter Tryz.func97,Tryz.ntmps97
 go_wp2_with fail
 repeat (with_reducible refine c1.calls0 HT.out ?_; intro wz hz; replace HT:=lH (Kp.keep HT.out hz); replace HS:=lH (HS.out.step hz); clear hz; try go_wp2_with fail)
 go_ret
 exact ⟨rfl,HS.out⟩
theorem width_k (no:Int) (X:Int) (hX:X = (rowOf no).2.1):KMk Tabs 97 #[.int .i64 no] (.int .i64 X):=by
 subst hX
 exact width_core no _ _ _ _ (by_k no)
def ordS (r:Row):ByteArray:=Dig.unS r.2.2.2
theorem order_core (no:Int) (x y z X:ByteArray) (n:Int) (q:Bool) (c1:KMk Tabs 100 #[.int .i64 no] (.agg #[.string x,.int .i64 n,.string y,.string z])) (c2:Mak 21 #[.string z] (.tuple #[.string X,.bool q])):KMk Tabs 99 #[.int .i64 no] (.string X):=by
 intro w hT
 have HS:=lH (Since.refl w)
 have HT:=lH hT
 have f0:=fld3 (.string x) (.int .i64 n) (.string y) (.string z)
 clear hT
 go_enter Tryz.func99,Tryz.ntmps99
 go_wp2_with fail
 repeat ((first | with_reducible refine c1.calls0 HT.out ?_ | with_reducible refine c2.calls0 ?_); intro wz hz; replace HT:=lH (Kp.keep HT.out hz); replace HS:=lH (HS.out.step hz); clear hz; try go_wp2_with fail)
 go_ret
 exact ⟨rfl,HS.out⟩
theorem row_even (no:Int):(rowOf no).2.2.2.length <= 200 /\ (rowOf no).2.2.2.length % 2 = 0:=by
 rcases row_cases no with h | rfl | rfl | rfl | rfl
 · rw [rowOf_out no h]; decide +kernel
 · decide +kernel
 · decide +kernel
 · decide +kernel
 · decide +kernel
theorem unhex_ev (s:ByteArray) (hm:s.size <= 200) (h:s.size % 2 = 0):Mak 21 #[.string s] (.tuple #[.string (Dig.unS s.data.toList),.bool (Dig.unB s.data.toList)]):=by
 have hl:s.data.toList.length = s.size:=rfl
 have e:Dig.unB s.data.toList = Dig.okN s.data.toList (s.size / 2):=by
   unfold Dig.unB
   rw [hl,decide_eq_true h,Bool.true_and]
 exact fun w => Dig.unhex_even s (s.size / 2) w (by omega) (by omega) _ _ e (by unfold Dig.unS; rw [e,hl])
theorem order_k (no:Int) (X:ByteArray) (hX:X = ordS (rowOf no)):KMk Tabs 99 #[.int .i64 no] (.string X):=by
 subst hX
 obtain ⟨h1,h2⟩:=row_even no
 have hz:(bs (rowOf no).2.2.2).size = (rowOf no).2.2.2.length:=by
   show (bs (rowOf no).2.2.2).data.toList.length = _
   rw [list_bs]
 have c2:=unhex_ev (bs (rowOf no).2.2.2) (by omega) (by omega)
 rw [list_bs] at c2
 exact order_core no _ _ _ _ _ _ (by_k no) c2
def KMkI (K:World -> Prop) (f:Nat) (args:Array Value) (xs:List Int):Prop:=∀ w,K w -> Calls Tryz.prog f args w fun e w' => ∃ v,e = .returned v /\ IntsS w' v xs /\ Below w.heap.size w w'
end Curve
namespace Curve
def fndL (p:Row -> Bool):List Row -> Nat -> Int × Bool
 | [],_ => (0,false)
 | r :: l,k => if p r then ((k:Int) + 1,true) else fndL p l (k + 1)
def KS (b:Nat) (s:ByteArray):World -> Prop:=fun w => w.cell? ⟨b,0,none⟩ = some (.string s)
instance (b:Nat) (s:ByteArray):Kp (KS b s):=⟨fun h hb => (hb.cell (p:=⟨b,0,none⟩) (block_lt_of_cell h)).trans h⟩
def KI (b:Nat) (s:Int):World -> Prop:=fun w => w.cell? ⟨b,0,none⟩ = some (.int .i64 s)
instance (b:Nat) (s:Int):Kp (KI b s):=⟨fun h hb => (hb.cell (p:=⟨b,0,none⟩) (block_lt_of_cell h)).trans h⟩
end Curve
namespace Kind
open Curve (KMkI)
def rowOf (no:Int):Row:=if 1 <= no /\ no <= 11 then (rows[(no - 1).toNat]?).getD noneR else noneR
def rowV (r:Row):Value:=.agg #[.string (bs r.1),.int .i64 r.2.1,.string (bs r.2.2.1),.int .i64 r.2.2.2.1,.string (bs r.2.2.2.2)]
set_option maxHeartbeats 1000000 in
theorem by_1 (x y z:ByteArray) (n c:Int) (hr:rows[0]? = some (x.data.toList,n,y.data.toList,c,z.data.toList)):KMk Tabs 82 #[.int .i64 1] (.agg #[.string x,.int .i64 n,.string y,.int .i64 c,.string z]):=by
 intro w hT
 have m0:w.cell? ⟨1,0,none⟩ = some (.string x):=by have:=hT 0 _ hr 0 _ rfl; rw [<- bs_list x]; exact this
 have m1:w.cell? ⟨1,1,none⟩ = some (.int .i64 n):=by have:=hT 0 _ hr 1 _ rfl; exact this
 have m2:w.cell? ⟨1,2,none⟩ = some (.string y):=by have:=hT 0 _ hr 2 _ rfl; rw [<- bs_list y]; exact this
 have m3:w.cell? ⟨1,3,none⟩ = some (.int .i64 c):=by have:=hT 0 _ hr 3 _ rfl; exact this
 have m4:w.cell? ⟨1,4,none⟩ = some (.string z):=by have:=hT 0 _ hr 4 _ rfl; rw [<- bs_list z]; exact this
 have hlt:=hT.lt
 clear hT hr
 go_enter Tryz.func82,Tryz.ntmps82
 go_wp2_with fail
 exact bodyPost_ret (v:=.agg #[.string x,.int .i64 n,.string y,.int .i64 c,.string z]) (by simp [results,Tryz.results82,go_sem]; try rfl) rfl ⟨rfl,(Below.refl _ w).alloc (Nat.le_refl _) _⟩
set_option maxHeartbeats 1000000 in
theorem by_2 (x y z:ByteArray) (n c:Int) (hr:rows[1]? = some (x.data.toList,n,y.data.toList,c,z.data.toList)):KMk Tabs 82 #[.int .i64 2] (.agg #[.string x,.int .i64 n,.string y,.int .i64 c,.string z]):=by
 intro w hT
 have m0:w.cell? ⟨1,5,none⟩ = some (.string x):=by have:=hT 1 _ hr 0 _ rfl; rw [<- bs_list x]; exact this
 have m1:w.cell? ⟨1,6,none⟩ = some (.int .i64 n):=by have:=hT 1 _ hr 1 _ rfl; exact this
 have m2:w.cell? ⟨1,7,none⟩ = some (.string y):=by have:=hT 1 _ hr 2 _ rfl; rw [<- bs_list y]; exact this
 have m3:w.cell? ⟨1,8,none⟩ = some (.int .i64 c):=by have:=hT 1 _ hr 3 _ rfl; exact this
 have m4:w.cell? ⟨1,9,none⟩ = some (.string z):=by have:=hT 1 _ hr 4 _ rfl; rw [<- bs_list z]; exact this
 have hlt:=hT.lt
 clear hT hr
 go_enter Tryz.func82,Tryz.ntmps82
 go_wp2_with fail
 exact bodyPost_ret (v:=.agg #[.string x,.int .i64 n,.string y,.int .i64 c,.string z]) (by simp [results,Tryz.results82,go_sem]; try rfl) rfl ⟨rfl,(Below.refl _ w).alloc (Nat.le_refl _) _⟩
set_option maxHeartbeats 1000000 in
theorem by_3 (x y z:ByteArray) (n c:Int) (hr:rows[2]? = some (x.data.toList,n,y.data.toList,c,z.data.toList)):KMk Tabs 82 #[.int .i64 3] (.agg #[.string x,.int .i64 n,.string y,.int .i64 c,.string z]):=by
 intro w hT
 have m0:w.cell? ⟨1,10,none⟩ = some (.string x):=by have:=hT 2 _ hr 0 _ rfl; rw [<- bs_list x]; exact this
 have m1:w.cell? ⟨1,11,none⟩ = some (.int .i64 n):=by have:=hT 2 _ hr 1 _ rfl; exact this
 have m2:w.cell? ⟨1,12,none⟩ = some (.string y):=by have:=hT 2 _ hr 2 _ rfl; rw [<- bs_list y]; exact this
 have m3:w.cell? ⟨1,13,none⟩ = some (.int .i64 c):=by have:=hT 2 _ hr 3 _ rfl; exact this
 have m4:w.cell? ⟨1,14,none⟩ = some (.string z):=by have:=hT 2 _ hr 4 _ rfl; rw [<- bs_list z]; exact this
 have hlt:=hT.lt
 clear hT hr
 go_enter Tryz.func82,Tryz.ntmps82
 go_wp2_with fail
 exact bodyPost_ret (v:=.agg #[.string x,.int .i64 n,.string y,.int .i64 c,.string z]) (by simp [results,Tryz.results82,go_sem]; try rfl) rfl ⟨rfl,(Below.refl _ w).alloc (Nat.le_refl _) _⟩
set_option maxHeartbeats 1000000 in
theorem by_4 (x y z:ByteArray) (n c:Int) (hr:rows[3]? = some (x.data.toList,n,y.data.toList,c,z.data.toList)):KMk Tabs 82 #[.int .i64 4] (.agg #[.string x,.int .i64 n,.string y,.int .i64 c,.string z]):=by
 intro w hT
 have m0:w.cell? ⟨1,15,none⟩ = some (.string x):=by have:=hT 3 _ hr 0 _ rfl; rw [<- bs_list x]; exact this
 have m1:w.cell? ⟨1,16,none⟩ = some (.int .i64 n):=by have:=hT 3 _ hr 1 _ rfl; exact this
 have m2:w.cell? ⟨1,17,none⟩ = some (.string y):=by have:=hT 3 _ hr 2 _ rfl; rw [<- bs_list y]; exact this
 have m3:w.cell? ⟨1,18,none⟩ = some (.int .i64 c):=by have:=hT 3 _ hr 3 _ rfl; exact this
 have m4:w.cell? ⟨1,19,none⟩ = some (.string z):=by have:=hT 3 _ hr 4 _ rfl; rw [<- bs_list z]; exact this
 have hlt:=hT.lt
 clear hT hr
 go_enter Tryz.func82,Tryz.ntmps82
 go_wp2_with fail
 exact bodyPost_ret (v:=.agg #[.string x,.int .i64 n,.string y,.int .i64 c,.string z]) (by simp [results,Tryz.results82,go_sem]; try rfl) rfl ⟨rfl,(Below.refl _ w).alloc (Nat.le_refl _) _⟩
set_option maxHeartbeats 1000000 in
theorem by_5 (x y z:ByteArray) (n c:Int) (hr:rows[4]? = some (x.data.toList,n,y.data.toList,c,z.data.toList)):KMk Tabs 82 #[.int .i64 5] (.agg #[.string x,.int .i64 n,.string y,.int .i64 c,.string z]):=by
 intro w hT
 have m0:w.cell? ⟨1,20,none⟩ = some (.string x):=by have:=hT 4 _ hr 0 _ rfl; rw [<- bs_list x]; exact this
 have m1:w.cell? ⟨1,21,none⟩ = some (.int .i64 n):=by have:=hT 4 _ hr 1 _ rfl; exact this
 have m2:w.cell? ⟨1,22,none⟩ = some (.string y):=by have:=hT 4 _ hr 2 _ rfl; rw [<- bs_list y]; exact this
 have m3:w.cell? ⟨1,23,none⟩ = some (.int .i64 c):=by have:=hT 4 _ hr 3 _ rfl; exact this
 have m4:w.cell? ⟨1,24,none⟩ = some (.string z):=by have:=hT 4 _ hr 4 _ rfl; rw [<- bs_list z]; exact this
 have hlt:=hT.lt
 clear hT hr
 go_enter Tryz.func82,Tryz.ntmps82
 go_wp2_with fail
 exact bodyPost_ret (v:=.agg #[.string x,.int .i64 n,.string y,.int .i64 c,.string z]) (by simp [results,Tryz.results82,go_sem]; try rfl) rfl ⟨rfl,(Below.refl _ w).alloc (Nat.le_refl _) _⟩
set_option maxHeartbeats 1000000 in
theorem by_6 (x y z:ByteArray) (n c:Int) (hr:rows[5]? = some (x.data.toList,n,y.data.toList,c,z.data.toList)):KMk Tabs 82 #[.int .i64 6] (.agg #[.string x,.int .i64 n,.string y,.int .i64 c,.string z]):=by
 intro w hT
 have m0:w.cell? ⟨1,25,none⟩ = some (.string x):=by have:=hT 5 _ hr 0 _ rfl; rw [<- bs_list x]; exact this
 have m1:w.cell? ⟨1,26,none⟩ = some (.int .i64 n):=by have:=hT 5 _ hr 1 _ rfl; exact this
 have m2:w.cell? ⟨1,27,none⟩ = some (.string y):=by have:=hT 5 _ hr 2 _ rfl; rw [<- bs_list y]; exact this
 have m3:w.cell? ⟨1,28,none⟩ = some (.int .i64 c):=by have:=hT 5 _ hr 3 _ rfl; exact this
 have m4:w.cell? ⟨1,29,none⟩ = some (.string z):=by have:=hT 5 _ hr 4 _ rfl; rw [<- bs_list z]; exact this
 have hlt:=hT.lt
 clear hT hr
 go_enter Tryz.func82,Tryz.ntmps82
 go_wp2_with fail
 exact bodyPost_ret (v:=.agg #[.string x,.int .i64 n,.string y,.int .i64 c,.string z]) (by simp [results,Tryz.results82,go_sem]; try rfl) rfl ⟨rfl,(Below.refl _ w).alloc (Nat.le_refl _) _⟩
set_option maxHeartbeats 1000000 in
theorem by_7 (x y z:ByteArray) (n c:Int) (hr:rows[6]? = some (x.data.toList,n,y.data.toList,c,z.data.toList)):KMk Tabs 82 #[.int .i64 7] (.agg #[.string x,.int .i64 n,.string y,.int .i64 c,.string z]):=by
 intro w hT
 have m0:w.cell? ⟨1,30,none⟩ = some (.string x):=by have:=hT 6 _ hr 0 _ rfl; rw [<- bs_list x]; exact this
 have m1:w.cell? ⟨1,31,none⟩ = some (.int .i64 n):=by have:=hT 6 _ hr 1 _ rfl; exact this
 have m2:w.cell? ⟨1,32,none⟩ = some (.string y):=by have:=hT 6 _ hr 2 _ rfl; rw [<- bs_list y]; exact this
 have m3:w.cell? ⟨1,33,none⟩ = some (.int .i64 c):=by have:=hT 6 _ hr 3 _ rfl; exact this
 have m4:w.cell? ⟨1,34,none⟩ = some (.string z):=by have:=hT 6 _ hr 4 _ rfl; rw [<- bs_list z]; exact this
 have hlt:=hT.lt
 clear hT hr
 go_enter Tryz.func82,Tryz.ntmps82
 go_wp2_with fail
 exact bodyPost_ret (v:=.agg #[.string x,.int .i64 n,.string y,.int .i64 c,.string z]) (by simp [results,Tryz.results82,go_sem]; try rfl) rfl ⟨rfl,(Below.refl _ w).alloc (Nat.le_refl _) _⟩
set_option maxHeartbeats 1000000 in
theorem by_8 (x y z:ByteArray) (n c:Int) (hr:rows[7]? = some (x.data.toList,n,y.data.toList,c,z.data.toList)):KMk Tabs 82 #[.int .i64 8] (.agg #[.string x,.int .i64 n,.string y,.int .i64 c,.string z]):=by
 intro w hT
 have m0:w.cell? ⟨1,35,none⟩ = some (.string x):=by have:=hT 7 _ hr 0 _ rfl; rw [<- bs_list x]; exact this
 have m1:w.cell? ⟨1,36,none⟩ = some (.int .i64 n):=by have:=hT 7 _ hr 1 _ rfl; exact this
 have m2:w.cell? ⟨1,37,none⟩ = some (.string y):=by have:=hT 7 _ hr 2 _ rfl; rw [<- bs_list y]; exact this
 have m3:w.cell? ⟨1,38,none⟩ = some (.int .i64 c):=by have:=hT 7 _ hr 3 _ rfl; exact this
 have m4:w.cell? ⟨1,39,none⟩ = some (.string z):=by have:=hT 7 _ hr 4 _ rfl; rw [<- bs_list z]; exact this
 have hlt:=hT.lt
 clear hT hr
 go_enter Tryz.func82,Tryz.ntmps82
 go_wp2_with fail
 exact bodyPost_ret (v:=.agg #[.string x,.int .i64 n,.string y,.int .i64 c,.string z]) (by simp [results,Tryz.results82,go_sem]; try rfl) rfl ⟨rfl,(Below.refl _ w).alloc (Nat.le_refl _) _⟩
set_option maxHeartbeats 1000000 in
theorem by_9 (x y z:ByteArray) (n c:Int) (hr:rows[8]? = some (x.data.toList,n,y.data.toList,c,z.data.toList)):KMk Tabs 82 #[.int .i64 9] (.agg #[.string x,.int .i64 n,.string y,.int .i64 c,.string z]):=by
 intro w hT
 have m0:w.cell? ⟨1,40,none⟩ = some (.string x):=by have:=hT 8 _ hr 0 _ rfl; rw [<- bs_list x]; exact this
 have m1:w.cell? ⟨1,41,none⟩ = some (.int .i64 n):=by have:=hT 8 _ hr 1 _ rfl; exact this
 have m2:w.cell? ⟨1,42,none⟩ = some (.string y):=by have:=hT 8 _ hr 2 _ rfl; rw [<- bs_list y]; exact this
 have m3:w.cell? ⟨1,43,none⟩ = some (.int .i64 c):=by have:=hT 8 _ hr 3 _ rfl; exact this
 have m4:w.cell? ⟨1,44,none⟩ = some (.string z):=by have:=hT 8 _ hr 4 _ rfl; rw [<- bs_list z]; exact this
 have hlt:=hT.lt
 clear hT hr
 go_enter Tryz.func82,Tryz.ntmps82
 go_wp2_with fail
 exact bodyPost_ret (v:=.agg #[.string x,.int .i64 n,.string y,.int .i64 c,.string z]) (by simp [results,Tryz.results82,go_sem]; try rfl) rfl ⟨rfl,(Below.refl _ w).alloc (Nat.le_refl _) _⟩
set_option maxHeartbeats 1000000 in
theorem by_10 (x y z:ByteArray) (n c:Int) (hr:rows[9]? = some (x.data.toList,n,y.data.toList,c,z.data.toList)):KMk Tabs 82 #[.int .i64 10] (.agg #[.string x,.int .i64 n,.string y,.int .i64 c,.string z]):=by
 intro w hT
 have m0:w.cell? ⟨1,45,none⟩ = some (.string x):=by have:=hT 9 _ hr 0 _ rfl; rw [<- bs_list x]; exact this
 have m1:w.cell? ⟨1,46,none⟩ = some (.int .i64 n):=by have:=hT 9 _ hr 1 _ rfl; exact this
 have m2:w.cell? ⟨1,47,none⟩ = some (.string y):=by have:=hT 9 _ hr 2 _ rfl; rw [<- bs_list y]; exact this
 have m3:w.cell? ⟨1,48,none⟩ = some (.int .i64 c):=by have:=hT 9 _ hr 3 _ rfl; exact this
 have m4:w.cell? ⟨1,49,none⟩ = some (.string z):=by have:=hT 9 _ hr 4 _ rfl; rw [<- bs_list z]; exact this
 have hlt:=hT.lt
 clear hT hr
 go_enter Tryz.func82,Tryz.ntmps82
 go_wp2_with fail
 exact bodyPost_ret (v:=.agg #[.string x,.int .i64 n,.string y,.int .i64 c,.string z]) (by simp [results,Tryz.results82,go_sem]; try rfl) rfl ⟨rfl,(Below.refl _ w).alloc (Nat.le_refl _) _⟩
set_option maxHeartbeats 1000000 in
theorem by_11 (x y z:ByteArray) (n c:Int) (hr:rows[10]? = some (x.data.toList,n,y.data.toList,c,z.data.toList)):KMk Tabs 82 #[.int .i64 11] (.agg #[.string x,.int .i64 n,.string y,.int .i64 c,.string z]):=by
 intro w hT
 have m0:w.cell? ⟨1,50,none⟩ = some (.string x):=by have:=hT 10 _ hr 0 _ rfl; rw [<- bs_list x]; exact this
 have m1:w.cell? ⟨1,51,none⟩ = some (.int .i64 n):=by have:=hT 10 _ hr 1 _ rfl; exact this
 have m2:w.cell? ⟨1,52,none⟩ = some (.string y):=by have:=hT 10 _ hr 2 _ rfl; rw [<- bs_list y]; exact this
 have m3:w.cell? ⟨1,53,none⟩ = some (.int .i64 c):=by have:=hT 10 _ hr 3 _ rfl; exact this
 have m4:w.cell? ⟨1,54,none⟩ = some (.string z):=by have:=hT 10 _ hr 4 _ rfl; rw [<- bs_list z]; exact this
 have hlt:=hT.lt
 clear hT hr
 go_enter Tryz.func82,Tryz.ntmps82
 go_wp2_with fail
 exact bodyPost_ret (v:=.agg #[.string x,.int .i64 n,.string y,.int .i64 c,.string z]) (by simp [results,Tryz.results82,go_sem]; try rfl) rfl ⟨rfl,(Below.refl _ w).alloc (Nat.le_refl _) _⟩
theorem by_out (no:Int) (h:no < 1 ∨ 11 < no):Mak 82 #[.int .i64 no] (.agg #[.string ⟨#[]⟩,.int .i64 0,.string ⟨#[]⟩,.int .i64 0,.string ⟨#[]⟩]):=by
 intro w
 by_cases h1:no < 1
 · clear h
   go_enter Tryz.func82,Tryz.ntmps82
   go_wp2_with fail
   exact bodyPost_ret (v:=.agg #[.string ⟨#[]⟩,.int .i64 0,.string ⟨#[]⟩,.int .i64 0,.string ⟨#[]⟩]) (by simp [results,Tryz.results82,go_sem]; try rfl) rfl ⟨rfl,(Below.refl _ w).alloc (Nat.le_refl _) _⟩
 · have h2:11 < no:=by omega
   clear h
   go_enter Tryz.func82,Tryz.ntmps82
   go_wp2_with fail
   exact bodyPost_ret (v:=.agg #[.string ⟨#[]⟩,.int .i64 0,.string ⟨#[]⟩,.int .i64 0,.string ⟨#[]⟩]) (by simp [results,Tryz.results82,go_sem]; try rfl) rfl ⟨rfl,(Below.refl _ w).alloc (Nat.le_refl _) _⟩
theorem row_bs (r:Row):r = ((bs r.1).data.toList,r.2.1,(bs r.2.2.1).data.toList,r.2.2.2.1,(bs r.2.2.2.2).data.toList):=by rw [list_bs,list_bs,list_bs]
theorem row_cases (no:Int):(no < 1 ∨ 11 < no) ∨ no = 1 ∨ no = 2 ∨ no = 3 ∨ no = 4 ∨ no = 5 ∨ no = 6 ∨ no = 7 ∨ no = 8 ∨ no = 9 ∨ no = 10 ∨ no = 11:=by omega
theorem rowOf_out (no:Int) (h:no < 1 ∨ 11 < no):rowOf no = noneR:=if_neg (by omega)
theorem by_k (no:Int):KMk Tabs 82 #[.int .i64 no] (rowV (rowOf no)):=by
 rcases row_cases no with h | rfl | rfl | rfl | rfl | rfl | rfl | rfl | rfl | rfl | rfl | rfl
 · rw [rowOf_out no h]; exact (by_out no h).k
 · exact by_1 _ _ _ _ _ (congrArg some (row_bs _))
 · exact by_2 _ _ _ _ _ (congrArg some (row_bs _))
 · exact by_3 _ _ _ _ _ (congrArg some (row_bs _))
 · exact by_4 _ _ _ _ _ (congrArg some (row_bs _))
 · exact by_5 _ _ _ _ _ (congrArg some (row_bs _))
 · exact by_6 _ _ _ _ _ (congrArg some (row_bs _))
 · exact by_7 _ _ _ _ _ (congrArg some (row_bs _))
 · exact by_8 _ _ _ _ _ (congrArg some (row_bs _))
 · exact by_9 _ _ _ _ _ (congrArg some (row_bs _))
 · exact by_10 _ _ _ _ _ (congrArg some (row_bs _))
 · exact by_11 _ _ _ _ _ (congrArg some (row_bs _))
theorem fld0 (x y z u v:Value) (w:World):(Instr.field 107 (.agg #[x,y,z,u,v]) 0).run Tryz.prog w = .ok x w:=by kernel_rfl
theorem fld1 (x y z u v:Value) (w:World):(Instr.field 107 (.agg #[x,y,z,u,v]) 1).run Tryz.prog w = .ok y w:=by kernel_rfl
theorem fld2 (x y z u v:Value) (w:World):(Instr.field 107 (.agg #[x,y,z,u,v]) 2).run Tryz.prog w = .ok z w:=by kernel_rfl
theorem fld3 (x y z u v:Value) (w:World):(Instr.field 107 (.agg #[x,y,z,u,v]) 3).run Tryz.prog w = .ok u w:=by kernel_rfl
theorem name_core (no:Int) (x y z:ByteArray) (n c:Int) (c1:KMk Tabs 82 #[.int .i64 no] (.agg #[.string x,.int .i64 n,.string y,.int .i64 c,.string z])):KMk Tabs 64 #[.int .i64 no] (.string x):=by
 intro w hT
 have HS:=lH (Since.refl w)
 have HT:=lH hT
 have f0:=fld0 (.string x) (.int .i64 n) (.string y) (.int .i64 c) (.string z)
 have f1:=fld1 (.string x) (.int .i64 n) (.string y) (.int .i64 c) (.string z)
 have f2:=fld2 (.string x) (.int .i64 n) (.string y) (.int .i64 c) (.string z)
 have f3:=fld3 (.string x) (.int .i64 n) (.string y) (.int .i64 c) (.string z)
 clear hT
 go_enter Tryz.func64,Tryz.ntmps64
 go_wp2_with fail
 repeat (with_reducible refine c1.calls0 HT.out ?_; intro wz hz; replace HT:=lH (Kp.keep HT.out hz); replace HS:=lH (HS.out.step hz); clear hz; try go_wp2_with fail)
 go_ret
 exact ⟨rfl,HS.out⟩
theorem name_k (no:Int) (X:ByteArray) (hX:X = bs (rowOf no).1):KMk Tabs 64 #[.int .i64 no] (.string X):=by
 subst hX
 exact name_core no _ _ _ _ _ (by_k no)
def fndL (p:Row -> Bool):List Row -> Nat -> Int × Bool
 | [],_ => (0,false)
 | r :: l,k => if p r then ((k:Int) + 1,true) else fndL p l (k + 1)
end Kind
namespace Curve
theorem scalar_e (no:Int):Ret 94 #[.int .i64 no,.string ⟨#[]⟩] (.bool false):=by
 intro w
 go_enter Tryz.func94,Tryz.ntmps94
 go_wp2_with fail
 go_ret
 exact ⟨rfl,rfl⟩
theorem scalar_w (no n:Int) (s:ByteArray) (hs:0 < s.size) (hz:((s.size:Int) == n) = false) (c1:KMk Tabs 97 #[.int .i64 no] (.int .i64 n)):KMk Tabs 94 #[.int .i64 no,.string s] (.bool false):=by
 intro w hT
 have HS:=lH (Since.refl w)
 have HT:=lH hT
 have b1:=some_bytes s hs
 have b2:=some_bytes_f s hs
 clear hT
 go_enter Tryz.func94,Tryz.ntmps94
 go_wp2_with fail
 repeat (with_reducible refine c1.calls0 HT.out ?_; intro wz hz; replace HT:=lH (Kp.keep HT.out hz); replace HS:=lH (HS.out.step hz); clear hz; try go_wp2_with fail)
 go_ret
 exact ⟨rfl,HS.out⟩
theorem scalar_y (no n:Int) (s:ByteArray) (hs:0 < s.size) (hz:((s.size:Int) == n) = true) (c1:KMk Tabs 97 #[.int .i64 no] (.int .i64 n)) (c2:Mak 98 #[.string s,.string ⟨#[0]⟩] (.string ⟨#[]⟩)):KMk Tabs 94 #[.int .i64 no,.string s] (.bool false):=by
 intro w hT
 have HS:=lH (Since.refl w)
 have HT:=lH hT
 have b1:=some_bytes s hs
 have b2:=some_bytes_f s hs
 clear hT
 go_enter Tryz.func94,Tryz.ntmps94
 go_wp2_with fail
 repeat ((first | with_reducible refine c1.calls0 HT.out ?_ | with_reducible refine c2.calls0 ?_); intro wz hz; replace HT:=lH (Kp.keep HT.out hz); replace HS:=lH (HS.out.step hz); clear hz; try go_wp2_with fail)
 go_ret
 exact ⟨rfl,HS.out⟩
theorem scalar_l (no n:Int) (s Y Z:ByteArray) (q:Bool) (hs:0 < s.size) (hy:0 < Y.size) (hz:((s.size:Int) == n) = true) (hq:Op.bytesLess s.toList Z.toList = q) (c1:KMk Tabs 97 #[.int .i64 no] (.int .i64 n)) (c2:Mak 98 #[.string s,.string ⟨#[0]⟩] (.string Y)) (c3:KMk Tabs 99 #[.int .i64 no] (.string Z)):KMk Tabs 94 #[.int .i64 no,.string s] (.bool q):=by
 intro w hT
 have HS:=lH (Since.refl w)
 have HT:=lH hT
 have b1:=some_bytes s hs
 have b2:=some_bytes_f s hs
 have b3:=some_bytes Y hy
 have b4:=some_bytes_f Y hy
 clear hT
 cases q
 all_goals
   go_enter Tryz.func94,Tryz.ntmps94
   go_wp2_with fail
   repeat ((first | with_reducible refine c1.calls0 HT.out ?_ | with_reducible refine c2.calls0 ?_ | with_reducible refine c3.calls0 HT.out ?_); intro wz hz; replace HT:=lH (Kp.keep HT.out hz); replace HS:=lH (HS.out.step hz); clear hz; try go_wp2_with fail)
   go_ret
   exact ⟨rfl,HS.out⟩
def scB (r:Row) (s:List UInt8):Bool:=decide (s ≠ []) && decide ((s.length:Int) = r.2.1) && s.any (· != 0) && Op.bytesLess s (ordS r).data.toList
theorem any_trim (s:List UInt8):s.any (· != 0) = !(Trim.left 0 (Trim.right 0 s)).isEmpty:=by
 rw [Bool.eq_iff_iff,List.any_eq_true,Bool.not_eq_true',List.isEmpty_eq_false_iff]
 constructor
 · rintro ⟨x,hx,h2⟩ h3
   exact (bne_iff_ne.1 h2) ((Trim.trim_all 0 s).1 h3 x hx)
 · intro h
   apply Classical.byContradiction
   intro h2
   refine h ((Trim.trim_all 0 s).2 fun x hx => Classical.byContradiction fun h3 => h2 ⟨x,hx,by rw [bne_iff_ne]; exact h3⟩)
theorem scalar_k (no:Int) (s:ByteArray) (hm:s.size <= 140737488355328) (q:Bool) (hq:q = scB (rowOf no) s.data.toList):KMk Tabs 94 #[.int .i64 no,.string s] (.bool q):=by
 have hl:s.data.toList.length = s.size:=rfl
 have c1:=width_k no _ rfl
 have c3:=order_k no _ rfl
 have c2:=Trim.trim_mak s hm 0 (by decide) _ rfl
 unfold scB at hq
 by_cases hs:0 < s.size
 · rw [decide_eq_true (show s.data.toList ≠ [] from fun h => by rw [h] at hl; have h9:([]:List UInt8).length = 0:=rfl; omega),Bool.true_and,hl] at hq
   by_cases hz:(s.size:Int) = (rowOf no).2.1
   · rw [decide_eq_true hz,Bool.true_and,any_trim] at hq
     by_cases hy:Trim.left 0 (Trim.right 0 s.data.toList) = []
     · rw [hy] at hq c2
       have:q = false:=hq
       subst this
       exact scalar_y no _ s hs (beq_iff_eq.2 hz) c1 c2
     · have h3:(Trim.left 0 (Trim.right 0 s.data.toList)).isEmpty = false:=by rw [List.isEmpty_eq_false_iff]; exact hy
       rw [h3,Bool.not_false,Bool.true_and] at hq
       refine scalar_l no _ s _ _ q hs ?_ (beq_iff_eq.2 hz) (by rw [toList_d,toList_d]; exact hq.symm) c1 c2 c3
       show 0 < (bs (Trim.left 0 (Trim.right 0 s.data.toList))).data.toList.length
       rw [list_bs]
       exact List.length_pos_iff.2 hy
   · rw [decide_eq_false hz] at hq
     have:q = false:=hq
     subst this
     exact scalar_w no _ s hs (beq_eq_false_iff_ne.2 hz) c1
 · obtain rfl:s = ⟨#[]⟩:=ba_ext (List.eq_nil_of_length_eq_zero (by omega))
   have:q = false:=hq
   subst this
   exact (scalar_e no).k
end Curve
namespace Curve
theorem rw_1:Ret 95 #[.int .i64 1] (.int .i64 28):=by
 intro w
 go_enter Tryz.func95,Tryz.ntmps95
 go_wp2_with fail
 go_ret
 exact ⟨rfl,rfl⟩
theorem rw_2:Ret 95 #[.int .i64 2] (.int .i64 32):=by
 intro w
 go_enter Tryz.func95,Tryz.ntmps95
 go_wp2_with fail
 go_ret
 exact ⟨rfl,rfl⟩
theorem rw_3:Ret 95 #[.int .i64 3] (.int .i64 48):=by
 intro w
 go_enter Tryz.func95,Tryz.ntmps95
 go_wp2_with fail
 go_ret
 exact ⟨rfl,rfl⟩
theorem rw_4:Ret 95 #[.int .i64 4] (.int .i64 66):=by
 intro w
 go_enter Tryz.func95,Tryz.ntmps95
 go_wp2_with fail
 go_ret
 exact ⟨rfl,rfl⟩
theorem rw_no (k:Int) (h:k < 1 ∨ 4 < k):Ret 95 #[.int .i64 k] (.int .i64 0):=by
 intro w
 have a1:(k == 1) = false:=by rw [beq_eq_false_iff_ne]; omega
 have a2:(k == 2) = false:=by rw [beq_eq_false_iff_ne]; omega
 have a3:(k == 3) = false:=by rw [beq_eq_false_iff_ne]; omega
 have a4:(k == 4) = false:=by rw [beq_eq_false_iff_ne]; omega
 clear h
 go_enter Tryz.func95,Tryz.ntmps95
 go_wp2_with fail
 go_ret
 exact ⟨rfl,rfl⟩
theorem rwidth_ret (no X:Int) (hX:X = (rowOf no).2.1):Ret 95 #[.int .i64 no] (.int .i64 X):=by
 subst hX
 rcases row_cases no with h | rfl | rfl | rfl | rfl
 · rw [rowOf_out no h]; exact rw_no no h
 · exact rw_1
 · exact rw_2
 · exact rw_3
 · exact rw_4
def KAll:World -> Prop:=fun _ => True
instance:Kp KAll:=⟨fun _ _ => trivial⟩
def o1:ByteArray:=bs (rowOf 1).2.2.2
set_option maxHeartbeats 1000000 in
theorem ro_1 (z X:ByteArray) (hz:z = bs (rowOf 1).2.2.2) (q:Bool) (c1:Mak 23 #[.string z] (.tuple #[.string X,.bool q])):Mak 96 #[.int .i64 1] (.string X):=by
 intro w
 have HS:=lH (Since.refl w)
 subst hz
 go_enter Tryz.func96,Tryz.ntmps96
 go_wp2_with fail
 refine c1.calls HS.out ?_
 intro w1 h1
 replace HS:=lH h1
 clear h1
 go_wp2_with fail
 go_ret
 exact ⟨rfl,HS.out⟩
set_option maxHeartbeats 1000000 in
theorem ro_2 (z X:ByteArray) (hz:z = bs (rowOf 2).2.2.2) (q:Bool) (c1:Mak 23 #[.string z] (.tuple #[.string X,.bool q])):Mak 96 #[.int .i64 2] (.string X):=by
 intro w
 have HS:=lH (Since.refl w)
 subst hz
 go_enter Tryz.func96,Tryz.ntmps96
 go_wp2_with fail
 refine c1.calls HS.out ?_
 intro w1 h1
 replace HS:=lH h1
 clear h1
 go_wp2_with fail
 go_ret
 exact ⟨rfl,HS.out⟩
set_option maxHeartbeats 1000000 in
theorem ro_3 (z X:ByteArray) (hz:z = bs (rowOf 3).2.2.2) (q:Bool) (c1:Mak 23 #[.string z] (.tuple #[.string X,.bool q])):Mak 96 #[.int .i64 3] (.string X):=by
 intro w
 have HS:=lH (Since.refl w)
 subst hz
 go_enter Tryz.func96,Tryz.ntmps96
 go_wp2_with fail
 refine c1.calls HS.out ?_
 intro w1 h1
 replace HS:=lH h1
 clear h1
 go_wp2_with fail
 go_ret
 exact ⟨rfl,HS.out⟩
set_option maxHeartbeats 1000000 in
theorem ro_4 (z X:ByteArray) (hz:z = bs (rowOf 4).2.2.2) (q:Bool) (c1:Mak 23 #[.string z] (.tuple #[.string X,.bool q])):Mak 96 #[.int .i64 4] (.string X):=by
 intro w
 have HS:=lH (Since.refl w)
 subst hz
 go_enter Tryz.func96,Tryz.ntmps96
 go_wp2_with fail
 refine c1.calls HS.out ?_
 intro w1 h1
 replace HS:=lH h1
 clear h1
 go_wp2_with fail
 go_ret
 exact ⟨rfl,HS.out⟩
theorem ro_no (k:Int) (h:k < 1 ∨ 4 < k) (X:ByteArray) (q:Bool) (c1:Mak 23 #[.string ⟨#[]⟩] (.tuple #[.string X,.bool q])):Mak 96 #[.int .i64 k] (.string X):=by
 intro w
 have HS:=lH (Since.refl w)
 have a1:(k == 1) = false:=by rw [beq_eq_false_iff_ne]; omega
 have a2:(k == 2) = false:=by rw [beq_eq_false_iff_ne]; omega
 have a3:(k == 3) = false:=by rw [beq_eq_false_iff_ne]; omega
 have a4:(k == 4) = false:=by rw [beq_eq_false_iff_ne]; omega
 clear h
 go_enter Tryz.func96,Tryz.ntmps96
 go_wp2_with fail
 repeat (with_reducible refine c1.calls HS.out ?_; intro wz hz; replace HS:=lH hz; clear hz; try go_wp2_with fail)
 go_ret
 exact ⟨rfl,HS.out⟩
theorem runhex_ev (s:ByteArray) (hm:s.size <= 200) (h:s.size % 2 = 0):Mak 23 #[.string s] (.tuple #[.string (Dig.unS s.data.toList),.bool (Dig.unB s.data.toList)]):=by
 have hl:s.data.toList.length = s.size:=rfl
 have e:Dig.unB s.data.toList = Dig.okN s.data.toList (s.size / 2):=by
   unfold Dig.unB
   rw [hl,decide_eq_true h,Bool.true_and]
 exact fun w => RefDig.unhex_even s (s.size / 2) w (by omega) (by omega) _ _ e (by unfold Dig.unS; rw [e,hl])
theorem rorder_mak (no:Int) (X:ByteArray) (hX:X = ordS (rowOf no)):Mak 96 #[.int .i64 no] (.string X):=by
 subst hX
 obtain ⟨h1,h2⟩:=row_even no
 have hz:(bs (rowOf no).2.2.2).size = (rowOf no).2.2.2.length:=by
   show (bs (rowOf no).2.2.2).data.toList.length = _
   rw [list_bs]
 have c2:=runhex_ev (bs (rowOf no).2.2.2) (by omega) (by omega)
 rw [list_bs] at c2
 rcases row_cases no with h | rfl | rfl | rfl | rfl
 · rw [rowOf_out no h] at c2 ⊢; exact ro_no no h _ _ c2
 · exact ro_1 _ _ rfl _ c2
 · exact ro_2 _ _ rfl _ c2
 · exact ro_3 _ _ rfl _ c2
 · exact ro_4 _ _ rfl _ c2
end Curve
namespace Curve
theorem rscalar_0 (no:Int) (s:ByteArray) (c1:Ret 95 #[.int .i64 no] (.int .i64 0)):Ret 90 #[.int .i64 no,.string s] (.bool false):=by
 intro w
 go_enter Tryz.func90,Tryz.ntmps90
 go_wp2_with fail
 repeat (with_reducible refine c1.calls ?_; try go_wp2_with fail)
 go_ret
 exact ⟨rfl,rfl⟩
theorem rscalar_w (no n:Int) (s:ByteArray) (hn:(n == 0) = false) (hz:((s.size:Int) != n) = true) (c1:Ret 95 #[.int .i64 no] (.int .i64 n)):Ret 90 #[.int .i64 no,.string s] (.bool false):=by
 intro w
 go_enter Tryz.func90,Tryz.ntmps90
 go_wp2_with fail
 repeat (with_reducible refine c1.calls ?_; try go_wp2_with fail)
 go_ret
 exact ⟨rfl,rfl⟩
theorem any_snoc (l:List UInt8) (k:Nat) (h:k < l.length):(l.take (k + 1)).any (· != 0) = ((l.take k).any (· != 0) || l[k] != 0):=by
 rw [List.take_succ_eq_append_getElem h,List.any_append]; simp
set_option maxHeartbeats 1000000 in
theorem rscalar_l (no n:Int) (s Z:ByteArray) (p q:Bool) (hm:s.size <= 140737488355328) (hn:(n == 0) = false) (hz:((s.size:Int) != n) = false) (hp:p = s.data.toList.any (· != 0)) (hq:Op.bytesLess s.toList Z.toList = q) (c1:Ret 95 #[.int .i64 no] (.int .i64 n)) (c3:Mak 96 #[.int .i64 no] (.string Z)):Mak 90 #[.int .i64 no,.string s] (.bool (p && q)):=by
 intro w
 have HS:=lH (Since.refl w)
 have HP:=lH hp
 clear hp
 go_enter Tryz.func90,Tryz.ntmps90
 go_wp2_with fail
 repeat (with_reducible refine c1.calls ?_; try go_wp2_with fail)
 go_loop [5,6] (fun b i => ∃ k:Nat,k <= s.size /\ i = .int .i64 (k:Int) /\ ∃ x:Bool,b = .bool x /\ Hid (x = (s.data.toList.take k).any (· != 0))) (fun _ i => s.size - (intOf i).toNat)
 case atStart => exact ⟨0,by omega,rfl,false,rfl,lH rfl⟩
 case round =>
   obtain ⟨k,hk,rfl,x,rfl,HX⟩:=hrel
   by_cases hlt:k < s.size
   · have hst:=any_snoc s.data.toList k hlt
     obtain ⟨y,hy⟩:∃ y,((s[k].toNat:Int) != 0) = y:=⟨_,rfl⟩
     have hy2:(s.data.toList[k]'hlt != 0) = y:=by
       rw [<- hy,Bool.eq_iff_iff,bne_iff_ne,bne_iff_ne]
       have e:s.data.toList[k]'hlt = s[k]:=rfl
       rw [e]
       exact not_congr ⟨fun h => by rw [h]; rfl,fun h => UInt8.toNat_inj.1 (by show s[k].toNat = 0; omega)⟩
     rw [hy2,<- HX.out] at hst
     clear hy2
     cases y
     · rw [Bool.or_false] at hst
       have HX2:=lH hst.symm
       clear hst HX
       go_wp2_with fail
       go_round
       case rel => exact ⟨k + 1,by omega,by go_num,x,rfl,HX2⟩
       case measure => simp [intOf]; omega
     · rw [Bool.or_true] at hst
       have HX2:=lH hst.symm
       clear hst HX
       go_wp2_with fail
       go_round
       case rel => exact ⟨k + 1,by omega,by go_num,true,rfl,HX2⟩
       case measure => simp [intOf]; omega
   · obtain rfl:k = s.size:=by omega
     have hxp:x = p:=by
       rw [HX.out,HP.out,List.take_of_length_le (show s.data.toList.length <= s.size from Nat.le_refl _)]
     subst hxp
     clear HX HP
     cases x
     · go_wp2_with fail
       go_ret
       exact ⟨rfl,HS.out⟩
     · go_wp2_with fail
       repeat (with_reducible refine c3.calls HS.out ?_; intro wz hz; replace HS:=lH hz; clear hz; try go_wp2_with fail)
       go_ret
       exact ⟨by rw [Bool.true_and]; first | rfl | rw [hq],HS.out⟩
theorem rscalar_mak (no:Int) (s:ByteArray) (hm:s.size <= 140737488355328) (q:Bool) (hq:q = scB (rowOf no) s.data.toList):Mak 90 #[.int .i64 no,.string s] (.bool q):=by
 have hl:s.data.toList.length = s.size:=rfl
 have c1:=rwidth_ret no _ rfl
 have c3:=rorder_mak no _ rfl
 unfold scB at hq
 rw [hl] at hq
 by_cases h0:(rowOf no).2.1 = 0
 · rw [h0] at c1 hq
   have:q = false:=by
     rw [hq]
     by_cases hs:s.data.toList = []
     · rw [hs]; rfl
     · have h9:s.size ≠ 0:=fun h => hs (List.eq_nil_of_length_eq_zero (by omega))
       rw [decide_eq_false (show ¬ ((s.size:Int) = 0) by omega),Bool.and_false]; rfl
   subst this
   exact (rscalar_0 no s c1).mak
 · by_cases hz:(s.size:Int) = (rowOf no).2.1
   · rw [decide_eq_true hz,Bool.and_true,decide_eq_true (show s.data.toList ≠ [] from fun h => by rw [h] at hl; have h9:([]:List UInt8).length = 0:=rfl; omega),Bool.true_and] at hq
     rw [hq]
     exact rscalar_l no _ s _ _ _ hm (beq_eq_false_iff_ne.2 h0) (bne_eq_false_iff_eq.2 hz) rfl (by rw [toList_d,toList_d]) c1 c3
   · rw [decide_eq_false hz,Bool.and_false] at hq
     have:q = false:=hq
     subst this
     exact (rscalar_w no _ s (beq_eq_false_iff_ne.2 h0) (bne_iff_ne.2 hz) c1).mak
end Curve
end Go.Proofs.YtcdjfmlanicjlaaGreatDoor
