import Derived.Test.YtcdjfmlanicjlaaDoorSk33
import Derived.Test.YtcdjfmlanicjlaaDoorSk10
import Derived.Test.YtcdjfmlanicjlaaDoorSk25
set_option maxRecDepth 100000
namespace Go.Proofs.YtcdjfmlanicjlaaDoor
open Go.RowKit
namespace Curve
def rowOf (no:Int):Row:=if 1 <= no /\ no <= 4 then (rows[(no - 1).toNat]?).getD noneR else noneR
def rowV (r:Row):Value:=.agg #[.string (bs r.1),.int .i64 r.2.1,.string (bs r.2.2.1),.string (bs r.2.2.2)]
set_option maxHeartbeats 1000000 in
theorem by_1 (x y z:ByteArray) (n:Int) (hr:rows[0]? = some (x.data.toList,n,y.data.toList,z.data.toList)):KMk Tabs 72 #[.int .i64 1] (.agg #[.string x,.int .i64 n,.string y,.string z]):=by
 intro w hT
 have m0:w.cell? ⟨4,0,none⟩ = some (.string x):=by have:=hT 0 _ hr 0 _ rfl; rw [<- bs_list x]; exact this
 have m1:w.cell? ⟨4,1,none⟩ = some (.int .i64 n):=by have:=hT 0 _ hr 1 _ rfl; exact this
 have m2:w.cell? ⟨4,2,none⟩ = some (.string y):=by have:=hT 0 _ hr 2 _ rfl; rw [<- bs_list y]; exact this
 have m3:w.cell? ⟨4,3,none⟩ = some (.string z):=by have:=hT 0 _ hr 3 _ rfl; rw [<- bs_list z]; exact this
 have hlt:=hT.lt
 clear hT hr
 go_enter Tryd.func72,Tryd.ntmps72
 go_wp2_with fail
 exact bodyPost_ret (v:=.agg #[.string x,.int .i64 n,.string y,.string z]) (by simp [results,Tryd.results72,go_sem]; try rfl) rfl ⟨rfl,(Below.refl _ w).alloc (Nat.le_refl _) _⟩
set_option maxHeartbeats 1000000 in
theorem by_2 (x y z:ByteArray) (n:Int) (hr:rows[1]? = some (x.data.toList,n,y.data.toList,z.data.toList)):KMk Tabs 72 #[.int .i64 2] (.agg #[.string x,.int .i64 n,.string y,.string z]):=by
 intro w hT
 have m0:w.cell? ⟨4,4,none⟩ = some (.string x):=by have:=hT 1 _ hr 0 _ rfl; rw [<- bs_list x]; exact this
 have m1:w.cell? ⟨4,5,none⟩ = some (.int .i64 n):=by have:=hT 1 _ hr 1 _ rfl; exact this
 have m2:w.cell? ⟨4,6,none⟩ = some (.string y):=by have:=hT 1 _ hr 2 _ rfl; rw [<- bs_list y]; exact this
 have m3:w.cell? ⟨4,7,none⟩ = some (.string z):=by have:=hT 1 _ hr 3 _ rfl; rw [<- bs_list z]; exact this
 have hlt:=hT.lt
 clear hT hr
 go_enter Tryd.func72,Tryd.ntmps72
 go_wp2_with fail
 exact bodyPost_ret (v:=.agg #[.string x,.int .i64 n,.string y,.string z]) (by simp [results,Tryd.results72,go_sem]; try rfl) rfl ⟨rfl,(Below.refl _ w).alloc (Nat.le_refl _) _⟩
set_option maxHeartbeats 1000000 in
theorem by_3 (x y z:ByteArray) (n:Int) (hr:rows[2]? = some (x.data.toList,n,y.data.toList,z.data.toList)):KMk Tabs 72 #[.int .i64 3] (.agg #[.string x,.int .i64 n,.string y,.string z]):=by
 intro w hT
 have m0:w.cell? ⟨4,8,none⟩ = some (.string x):=by have:=hT 2 _ hr 0 _ rfl; rw [<- bs_list x]; exact this
 have m1:w.cell? ⟨4,9,none⟩ = some (.int .i64 n):=by have:=hT 2 _ hr 1 _ rfl; exact this
 have m2:w.cell? ⟨4,10,none⟩ = some (.string y):=by have:=hT 2 _ hr 2 _ rfl; rw [<- bs_list y]; exact this
 have m3:w.cell? ⟨4,11,none⟩ = some (.string z):=by have:=hT 2 _ hr 3 _ rfl; rw [<- bs_list z]; exact this
 have hlt:=hT.lt
 clear hT hr
 go_enter Tryd.func72,Tryd.ntmps72
 go_wp2_with fail
 exact bodyPost_ret (v:=.agg #[.string x,.int .i64 n,.string y,.string z]) (by simp [results,Tryd.results72,go_sem]; try rfl) rfl ⟨rfl,(Below.refl _ w).alloc (Nat.le_refl _) _⟩
set_option maxHeartbeats 1000000 in
theorem by_4 (x y z:ByteArray) (n:Int) (hr:rows[3]? = some (x.data.toList,n,y.data.toList,z.data.toList)):KMk Tabs 72 #[.int .i64 4] (.agg #[.string x,.int .i64 n,.string y,.string z]):=by
 intro w hT
 have m0:w.cell? ⟨4,12,none⟩ = some (.string x):=by have:=hT 3 _ hr 0 _ rfl; rw [<- bs_list x]; exact this
 have m1:w.cell? ⟨4,13,none⟩ = some (.int .i64 n):=by have:=hT 3 _ hr 1 _ rfl; exact this
 have m2:w.cell? ⟨4,14,none⟩ = some (.string y):=by have:=hT 3 _ hr 2 _ rfl; rw [<- bs_list y]; exact this
 have m3:w.cell? ⟨4,15,none⟩ = some (.string z):=by have:=hT 3 _ hr 3 _ rfl; rw [<- bs_list z]; exact this
 have hlt:=hT.lt
 clear hT hr
 go_enter Tryd.func72,Tryd.ntmps72
 go_wp2_with fail
 exact bodyPost_ret (v:=.agg #[.string x,.int .i64 n,.string y,.string z]) (by simp [results,Tryd.results72,go_sem]; try rfl) rfl ⟨rfl,(Below.refl _ w).alloc (Nat.le_refl _) _⟩
theorem by_out (no:Int) (h:no < 1 ∨ 4 < no):Mak 72 #[.int .i64 no] (.agg #[.string ⟨#[]⟩,.int .i64 0,.string ⟨#[]⟩,.string ⟨#[]⟩]):=by
 intro w
 by_cases h1:no < 1
 · clear h
   go_enter Tryd.func72,Tryd.ntmps72
   go_wp2_with fail
   exact bodyPost_ret (v:=.agg #[.string ⟨#[]⟩,.int .i64 0,.string ⟨#[]⟩,.string ⟨#[]⟩]) (by simp [results,Tryd.results72,go_sem]; try rfl) rfl ⟨rfl,(Below.refl _ w).alloc (Nat.le_refl _) _⟩
 · have h2:4 < no:=by omega
   clear h
   go_enter Tryd.func72,Tryd.ntmps72
   go_wp2_with fail
   exact bodyPost_ret (v:=.agg #[.string ⟨#[]⟩,.int .i64 0,.string ⟨#[]⟩,.string ⟨#[]⟩]) (by simp [results,Tryd.results72,go_sem]; try rfl) rfl ⟨rfl,(Below.refl _ w).alloc (Nat.le_refl _) _⟩
theorem row_bs (r:Row):r = ((bs r.1).data.toList,r.2.1,(bs r.2.2.1).data.toList,(bs r.2.2.2).data.toList):=by rw [list_bs,list_bs,list_bs]
theorem row_cases (no:Int):(no < 1 ∨ 4 < no) ∨ no = 1 ∨ no = 2 ∨ no = 3 ∨ no = 4:=by omega
theorem rowOf_out (no:Int) (h:no < 1 ∨ 4 < no):rowOf no = noneR:=if_neg (by omega)
theorem by_k (no:Int):KMk Tabs 72 #[.int .i64 no] (rowV (rowOf no)):=by
 rcases row_cases no with h | rfl | rfl | rfl | rfl
 · rw [rowOf_out no h]; exact (by_out no h).k
 · exact by_1 _ _ _ _ (congrArg some (row_bs _))
 · exact by_2 _ _ _ _ (congrArg some (row_bs _))
 · exact by_3 _ _ _ _ (congrArg some (row_bs _))
 · exact by_4 _ _ _ _ (congrArg some (row_bs _))
theorem fld0 (x y z u:Value) (w:World):(Instr.field 117 (.agg #[x,y,z,u]) 0).run Tryd.prog w = .ok x w:=by kernel_rfl
theorem fld1 (x y z u:Value) (w:World):(Instr.field 117 (.agg #[x,y,z,u]) 1).run Tryd.prog w = .ok y w:=by kernel_rfl
theorem fld3 (x y z u:Value) (w:World):(Instr.field 117 (.agg #[x,y,z,u]) 3).run Tryd.prog w = .ok u w:=by kernel_rfl
theorem width_core (no:Int) (x y z:ByteArray) (n:Int) (c1:KMk Tabs 72 #[.int .i64 no] (.agg #[.string x,.int .i64 n,.string y,.string z])):KMk Tabs 69 #[.int .i64 no] (.int .i64 n):=by
 intro w hT
 have HS:=lH (Since.refl w)
 have HT:=lH hT
 have f0:=fld0 (.string x) (.int .i64 n) (.string y) (.string z)
 have f1:=fld1 (.string x) (.int .i64 n) (.string y) (.string z)
 clear hT
 go_enter Tryd.func69,Tryd.ntmps69
 go_wp2_with fail
 repeat (with_reducible refine c1.calls0 HT.out ?_; intro wz hz; replace HT:=lH (Kp.keep HT.out hz); replace HS:=lH (HS.out.step hz); clear hz; try go_wp2_with fail)
 go_ret
 exact ⟨rfl,HS.out⟩
theorem width_k (no:Int) (X:Int) (hX:X = (rowOf no).2.1):KMk Tabs 69 #[.int .i64 no] (.int .i64 X):=by
 subst hX
 exact width_core no _ _ _ _ (by_k no)
def ordS (r:Row):ByteArray:=Dig.unS r.2.2.2
theorem order_core (no:Int) (x y z X:ByteArray) (n:Int) (q:Bool) (c1:KMk Tabs 72 #[.int .i64 no] (.agg #[.string x,.int .i64 n,.string y,.string z])) (c2:Mak 20 #[.string z] (.tuple #[.string X,.bool q])):KMk Tabs 71 #[.int .i64 no] (.string X):=by
 intro w hT
 have HS:=lH (Since.refl w)
 have HT:=lH hT
 have f0:=fld3 (.string x) (.int .i64 n) (.string y) (.string z)
 clear hT
 go_enter Tryd.func71,Tryd.ntmps71
 go_wp2_with fail
 repeat ((first | with_reducible refine c1.calls0 HT.out ?_ | with_reducible refine c2.calls0 ?_); intro wz hz; replace HT:=lH (Kp.keep HT.out hz); replace HS:=lH (HS.out.step hz); clear hz; try go_wp2_with fail)
 go_ret
 exact ⟨rfl,HS.out⟩
theorem row_even (no:Int):(rowOf no).2.2.2.length <= 200 /\ (rowOf no).2.2.2.length % 2 = 0:=by
 rcases row_cases no with h | rfl | rfl | rfl | rfl
 · rw [rowOf_out no h]; decide +kernel
 · decide +kernel
 · decide +kernel
 · decide +kernel
 · decide +kernel
theorem unhex_ev (s:ByteArray) (hm:s.size <= 200) (h:s.size % 2 = 0):Mak 20 #[.string s] (.tuple #[.string (Dig.unS s.data.toList),.bool (Dig.unB s.data.toList)]):=by
 have hl:s.data.toList.length = s.size:=rfl
 have e:Dig.unB s.data.toList = Dig.okN s.data.toList (s.size / 2):=by
   unfold Dig.unB
   rw [hl,decide_eq_true h,Bool.true_and]
 exact fun w => Dig.unhex_even s (s.size / 2) w (by omega) (by omega) _ _ e (by unfold Dig.unS; rw [e,hl])
theorem order_k (no:Int) (X:ByteArray) (hX:X = ordS (rowOf no)):KMk Tabs 71 #[.int .i64 no] (.string X):=by
 subst hX
 obtain ⟨h1,h2⟩:=row_even no
 have hz:(bs (rowOf no).2.2.2).size = (rowOf no).2.2.2.length:=by
   show (bs (rowOf no).2.2.2).data.toList.length = _
   rw [list_bs]
 have c2:=unhex_ev (bs (rowOf no).2.2.2) (by omega) (by omega)
 rw [list_bs] at c2
 exact order_core no _ _ _ _ _ _ (by_k no) c2
def KMkI (K:World -> Prop) (f:Nat) (args:Array Value) (xs:List Int):Prop:=∀ w,K w -> Calls Tryd.prog f args w fun e w' => ∃ v,e = .returned v /\ IntsS w' v xs /\ Below w.heap.size w w'
end Curve
namespace Curve
def fndL (p:Row -> Bool):List Row -> Nat -> Int × Bool
 | [],_ => (0,false)
 | r :: l,k => if p r then ((k:Int) + 1,true) else fndL p l (k + 1)
def KS (b:Nat) (s:ByteArray):World -> Prop:=fun w => w.cell? ⟨b,0,none⟩ = some (.string s)
instance (b:Nat) (s:ByteArray):Kp (KS b s):=⟨fun h hb => (hb.cell (p:=⟨b,0,none⟩) (block_lt_of_cell h)).trans h⟩
def KI (b:Nat) (s:Int):World -> Prop:=fun w => w.cell? ⟨b,0,none⟩ = some (.int .i64 s)
instance (b:Nat) (s:Int):Kp (KI b s):=⟨fun h hb => (hb.cell (p:=⟨b,0,none⟩) (block_lt_of_cell h)).trans h⟩
end Curve
namespace Kind
open Curve (KMkI)
def rowOf (no:Int):Row:=if 1 <= no /\ no <= 11 then (rows[(no - 1).toNat]?).getD noneR else noneR
def rowV (r:Row):Value:=.agg #[.string (bs r.1),.int .i64 r.2.1,.string (bs r.2.2.1),.int .i64 r.2.2.2.1,.string (bs r.2.2.2.2)]
set_option maxHeartbeats 1000000 in
theorem by_1 (x y z:ByteArray) (n c:Int) (hr:rows[0]? = some (x.data.toList,n,y.data.toList,c,z.data.toList)):KMk Tabs 58 #[.int .i64 1] (.agg #[.string x,.int .i64 n,.string y,.int .i64 c,.string z]):=by
 intro w hT
 have m0:w.cell? ⟨1,0,none⟩ = some (.string x):=by have:=hT 0 _ hr 0 _ rfl; rw [<- bs_list x]; exact this
 have m1:w.cell? ⟨1,1,none⟩ = some (.int .i64 n):=by have:=hT 0 _ hr 1 _ rfl; exact this
 have m2:w.cell? ⟨1,2,none⟩ = some (.string y):=by have:=hT 0 _ hr 2 _ rfl; rw [<- bs_list y]; exact this
 have m3:w.cell? ⟨1,3,none⟩ = some (.int .i64 c):=by have:=hT 0 _ hr 3 _ rfl; exact this
 have m4:w.cell? ⟨1,4,none⟩ = some (.string z):=by have:=hT 0 _ hr 4 _ rfl; rw [<- bs_list z]; exact this
 have hlt:=hT.lt
 clear hT hr
 go_enter Tryd.func58,Tryd.ntmps58
 go_wp2_with fail
 exact bodyPost_ret (v:=.agg #[.string x,.int .i64 n,.string y,.int .i64 c,.string z]) (by simp [results,Tryd.results58,go_sem]; try rfl) rfl ⟨rfl,(Below.refl _ w).alloc (Nat.le_refl _) _⟩
set_option maxHeartbeats 1000000 in
theorem by_2 (x y z:ByteArray) (n c:Int) (hr:rows[1]? = some (x.data.toList,n,y.data.toList,c,z.data.toList)):KMk Tabs 58 #[.int .i64 2] (.agg #[.string x,.int .i64 n,.string y,.int .i64 c,.string z]):=by
 intro w hT
 have m0:w.cell? ⟨1,5,none⟩ = some (.string x):=by have:=hT 1 _ hr 0 _ rfl; rw [<- bs_list x]; exact this
 have m1:w.cell? ⟨1,6,none⟩ = some (.int .i64 n):=by have:=hT 1 _ hr 1 _ rfl; exact this
 have m2:w.cell? ⟨1,7,none⟩ = some (.string y):=by have:=hT 1 _ hr 2 _ rfl; rw [<- bs_list y]; exact this
 have m3:w.cell? ⟨1,8,none⟩ = some (.int .i64 c):=by have:=hT 1 _ hr 3 _ rfl; exact this
 have m4:w.cell? ⟨1,9,none⟩ = some (.string z):=by have:=hT 1 _ hr 4 _ rfl; rw [<- bs_list z]; exact this
 have hlt:=hT.lt
 clear hT hr
 go_enter Tryd.func58,Tryd.ntmps58
 go_wp2_with fail
 exact bodyPost_ret (v:=.agg #[.string x,.int .i64 n,.string y,.int .i64 c,.string z]) (by simp [results,Tryd.results58,go_sem]; try rfl) rfl ⟨rfl,(Below.refl _ w).alloc (Nat.le_refl _) _⟩
set_option maxHeartbeats 1000000 in
theorem by_3 (x y z:ByteArray) (n c:Int) (hr:rows[2]? = some (x.data.toList,n,y.data.toList,c,z.data.toList)):KMk Tabs 58 #[.int .i64 3] (.agg #[.string x,.int .i64 n,.string y,.int .i64 c,.string z]):=by
 intro w hT
 have m0:w.cell? ⟨1,10,none⟩ = some (.string x):=by have:=hT 2 _ hr 0 _ rfl; rw [<- bs_list x]; exact this
 have m1:w.cell? ⟨1,11,none⟩ = some (.int .i64 n):=by have:=hT 2 _ hr 1 _ rfl; exact this
 have m2:w.cell? ⟨1,12,none⟩ = some (.string y):=by have:=hT 2 _ hr 2 _ rfl; rw [<- bs_list y]; exact this
 have m3:w.cell? ⟨1,13,none⟩ = some (.int .i64 c):=by have:=hT 2 _ hr 3 _ rfl; exact this
 have m4:w.cell? ⟨1,14,none⟩ = some (.string z):=by have:=hT 2 _ hr 4 _ rfl; rw [<- bs_list z]; exact this
 have hlt:=hT.lt
 clear hT hr
 go_enter Tryd.func58,Tryd.ntmps58
 go_wp2_with fail
 exact bodyPost_ret (v:=.agg #[.string x,.int .i64 n,.string y,.int .i64 c,.string z]) (by simp [results,Tryd.results58,go_sem]; try rfl) rfl ⟨rfl,(Below.refl _ w).alloc (Nat.le_refl _) _⟩
set_option maxHeartbeats 1000000 in
theorem by_4 (x y z:ByteArray) (n c:Int) (hr:rows[3]? = some (x.data.toList,n,y.data.toList,c,z.data.toList)):KMk Tabs 58 #[.int .i64 4] (.agg #[.string x,.int .i64 n,.string y,.int .i64 c,.string z]):=by
 intro w hT
 have m0:w.cell? ⟨1,15,none⟩ = some (.string x):=by have:=hT 3 _ hr 0 _ rfl; rw [<- bs_list x]; exact this
 have m1:w.cell? ⟨1,16,none⟩ = some (.int .i64 n):=by have:=hT 3 _ hr 1 _ rfl; exact this
 have m2:w.cell? ⟨1,17,none⟩ = some (.string y):=by have:=hT 3 _ hr 2 _ rfl; rw [<- bs_list y]; exact this
 have m3:w.cell? ⟨1,18,none⟩ = some (.int .i64 c):=by have:=hT 3 _ hr 3 _ rfl; exact this
 have m4:w.cell? ⟨1,19,none⟩ = some (.string z):=by have:=hT 3 _ hr 4 _ rfl; rw [<- bs_list z]; exact this
 have hlt:=hT.lt
 clear hT hr
 go_enter Tryd.func58,Tryd.ntmps58
 go_wp2_with fail
 exact bodyPost_ret (v:=.agg #[.string x,.int .i64 n,.string y,.int .i64 c,.string z]) (by simp [results,Tryd.results58,go_sem]; try rfl) rfl ⟨rfl,(Below.refl _ w).alloc (Nat.le_refl _) _⟩
set_option maxHeartbeats 1000000 in
theorem by_5 (x y z:ByteArray) (n c:Int) (hr:rows[4]? = some (x.data.toList,n,y.data.toList,c,z.data.toList)):KMk Tabs 58 #[.int .i64 5] (.agg #[.string x,.int .i64 n,.string y,.int .i64 c,.string z]):=by
 intro w hT
 have m0:w.cell? ⟨1,20,none⟩ = some (.string x):=by have:=hT 4 _ hr 0 _ rfl; rw [<- bs_list x]; exact this
 have m1:w.cell? ⟨1,21,none⟩ = some (.int .i64 n):=by have:=hT 4 _ hr 1 _ rfl; exact this
 have m2:w.cell? ⟨1,22,none⟩ = some (.string y):=by have:=hT 4 _ hr 2 _ rfl; rw [<- bs_list y]; exact this
 have m3:w.cell? ⟨1,23,none⟩ = some (.int .i64 c):=by have:=hT 4 _ hr 3 _ rfl; exact this
 have m4:w.cell? ⟨1,24,none⟩ = some (.string z):=by have:=hT 4 _ hr 4 _ rfl; rw [<- bs_list z]; exact this
 have hlt:=hT.lt
 clear hT hr
 go_enter Tryd.func58,Tryd.ntmps58
 go_wp2_with fail
 exact bodyPost_ret (v:=.agg #[.string x,.int .i64 n,.string y,.int .i64 c,.string z]) (by simp [results,Tryd.results58,go_sem]; try rfl) rfl ⟨rfl,(Below.refl _ w).alloc (Nat.le_refl _) _⟩
set_option maxHeartbeats 1000000 in
theorem by_6 (x y z:ByteArray) (n c:Int) (hr:rows[5]? = some (x.data.toList,n,y.data.toList,c,z.data.toList)):KMk Tabs 58 #[.int .i64 6] (.agg #[.string x,.int .i64 n,.string y,.int .i64 c,.string z]):=by
 intro w hT
 have m0:w.cell? ⟨1,25,none⟩ = some (.string x):=by have:=hT 5 _ hr 0 _ rfl; rw [<- bs_list x]; exact this
 have m1:w.cell? ⟨1,26,none⟩ = some (.int .i64 n):=by have:=hT 5 _ hr 1 _ rfl; exact this
 have m2:w.cell? ⟨1,27,none⟩ = some (.string y):=by have:=hT 5 _ hr 2 _ rfl; rw [<- bs_list y]; exact this
 have m3:w.cell? ⟨1,28,none⟩ = some (.int .i64 c):=by have:=hT 5 _ hr 3 _ rfl; exact this
 have m4:w.cell? ⟨1,29,none⟩ = some (.string z):=by have:=hT 5 _ hr 4 _ rfl; rw [<- bs_list z]; exact this
 have hlt:=hT.lt
 clear hT hr
 go_enter Tryd.func58,Tryd.ntmps58
 go_wp2_with fail
 exact bodyPost_ret (v:=.agg #[.string x,.int .i64 n,.string y,.int .i64 c,.string z]) (by simp [results,Tryd.results58,go_sem]; try rfl) rfl ⟨rfl,(Below.refl _ w).alloc (Nat.le_refl _) _⟩
set_option maxHeartbeats 1000000 in
theorem by_7 (x y z:ByteArray) (n c:Int) (hr:rows[6]? = some (x.data.toList,n,y.data.toList,c,z.data.toList)):KMk Tabs 58 #[.int .i64 7] (.agg #[.string x,.int .i64 n,.string y,.int .i64 c,.string z]):=by
 intro w hT
 have m0:w.cell? ⟨1,30,none⟩ = some (.string x):=by have:=hT 6 _ hr 0 _ rfl; rw [<- bs_list x]; exact this
 have m1:w.cell? ⟨1,31,none⟩ = some (.int .i64 n):=by have:=hT 6 _ hr 1 _ rfl; exact this
 have m2:w.cell? ⟨1,32,none⟩ = some (.string y):=by have:=hT 6 _ hr 2 _ rfl; rw [<- bs_list y]; exact this
 have m3:w.cell? ⟨1,33,none⟩ = some (.int .i64 c):=by have:=hT 6 _ hr 3 _ rfl; exact this
 have m4:w.cell? ⟨1,34,none⟩ = some (.string z):=by have:=hT 6 _ hr 4 _ rfl; rw [<- bs_list z]; exact this
 have hlt:=hT.lt
 clear hT hr
 go_enter Tryd.func58,Tryd.ntmps58
 go_wp2_with fail
 exact bodyPost_ret (v:=.agg #[.string x,.int .i64 n,.string y,.int .i64 c,.string z]) (by simp [results,Tryd.results58,go_sem]; try rfl) rfl ⟨rfl,(Below.refl _ w).alloc (Nat.le_refl _) _⟩
set_option maxHeartbeats 1000000 in
theorem by_8 (x y z:ByteArray) (n c:Int) (hr:rows[7]? = some (x.data.toList,n,y.data.toList,c,z.data.toList)):KMk Tabs 58 #[.int .i64 8] (.agg #[.string x,.int .i64 n,.string y,.int .i64 c,.string z]):=by
 intro w hT
 have m0:w.cell? ⟨1,35,none⟩ = some (.string x):=by have:=hT 7 _ hr 0 _ rfl; rw [<- bs_list x]; exact this
 have m1:w.cell? ⟨1,36,none⟩ = some (.int .i64 n):=by have:=hT 7 _ hr 1 _ rfl; exact this
 have m2:w.cell? ⟨1,37,none⟩ = some (.string y):=by have:=hT 7 _ hr 2 _ rfl; rw [<- bs_list y]; exact this
 have m3:w.cell? ⟨1,38,none⟩ = some (.int .i64 c):=by have:=hT 7 _ hr 3 _ rfl; exact this
 have m4:w.cell? ⟨1,39,none⟩ = some (.string z):=by have:=hT 7 _ hr 4 _ rfl; rw [<- bs_list z]; exact this
 have hlt:=hT.lt
 clear hT hr
 go_enter Tryd.func58,Tryd.ntmps58
 go_wp2_with fail
 exact bodyPost_ret (v:=.agg #[.string x,.int .i64 n,.string y,.int .i64 c,.string z]) (by simp [results,Tryd.results58,go_sem]; try rfl) rfl ⟨rfl,(Below.refl _ w).alloc (Nat.le_refl _) _⟩
set_option maxHeartbeats 1000000 in
theorem by_9 (x y z:ByteArray) (n c:Int) (hr:rows[8]? = some (x.data.toList,n,y.data.toList,c,z.data.toList)):KMk Tabs 58 #[.int .i64 9] (.agg #[.string x,.int .i64 n,.string y,.int .i64 c,.string z]):=by
 intro w hT
 have m0:w.cell? ⟨1,40,none⟩ = some (.string x):=by have:=hT 8 _ hr 0 _ rfl; rw [<- bs_list x]; exact this
 have m1:w.cell? ⟨1,41,none⟩ = some (.int .i64 n):=by have:=hT 8 _ hr 1 _ rfl; exact this
 have m2:w.cell? ⟨1,42,none⟩ = some (.string y):=by have:=hT 8 _ hr 2 _ rfl; rw [<- bs_list y]; exact this
 have m3:w.cell? ⟨1,43,none⟩ = some (.int .i64 c):=by have:=hT 8 _ hr 3 _ rfl; exact this
 have m4:w.cell? ⟨1,44,none⟩ = some (.string z):=by have:=hT 8 _ hr 4 _ rfl; rw [<- bs_list z]; exact this
 have hlt:=hT.lt
 clear hT hr
 go_enter Tryd.func58,Tryd.ntmps58
 go_wp2_with fail
 exact bodyPost_ret (v:=.agg #[.string x,.int .i64 n,.string y,.int .i64 c,.string z]) (by simp [results,Tryd.results58,go_sem]; try rfl) rfl ⟨rfl,(Below.refl _ w).alloc (Nat.le_refl _) _⟩
set_option maxHeartbeats 1000000 in
theorem by_10 (x y z:ByteArray) (n c:Int) (hr:rows[9]? = some (x.data.toList,n,y.data.toList,c,z.data.toList)):KMk Tabs 58 #[.int .i64 10] (.agg #[.string x,.int .i64 n,.string y,.int .i64 c,.string z]):=by
 intro w hT
 have m0:w.cell? ⟨1,45,none⟩ = some (.string x):=by have:=hT 9 _ hr 0 _ rfl; rw [<- bs_list x]; exact this
 have m1:w.cell? ⟨1,46,none⟩ = some (.int .i64 n):=by have:=hT 9 _ hr 1 _ rfl; exact this
 have m2:w.cell? ⟨1,47,none⟩ = some (.string y):=by have:=hT 9 _ hr 2 _ rfl; rw [<- bs_list y]; exact this
 have m3:w.cell? ⟨1,48,none⟩ = some (.int .i64 c):=by have:=hT 9 _ hr 3 _ rfl; exact this
 have m4:w.cell? ⟨1,49,none⟩ = some (.string z):=by have:=hT 9 _ hr 4 _ rfl; rw [<- bs_list z]; exact this
 have hlt:=hT.lt
 clear hT hr
 go_enter Tryd.func58,Tryd.ntmps58
 go_wp2_with fail
 exact bodyPost_ret (v:=.agg #[.string x,.int .i64 n,.string y,.int .i64 c,.string z]) (by simp [results,Tryd.results58,go_sem]; try rfl) rfl ⟨rfl,(Below.refl _ w).alloc (Nat.le_refl _) _⟩
set_option maxHeartbeats 1000000 in
theorem by_11 (x y z:ByteArray) (n c:Int) (hr:rows[10]? = some (x.data.toList,n,y.data.toList,c,z.data.toList)):KMk Tabs 58 #[.int .i64 11] (.agg #[.string x,.int .i64 n,.string y,.int .i64 c,.string z]):=by
 intro w hT
 have m0:w.cell? ⟨1,50,none⟩ = some (.string x):=by have:=hT 10 _ hr 0 _ rfl; rw [<- bs_list x]; exact this
 have m1:w.cell? ⟨1,51,none⟩ = some (.int .i64 n):=by have:=hT 10 _ hr 1 _ rfl; exact this
 have m2:w.cell? ⟨1,52,none⟩ = some (.string y):=by have:=hT 10 _ hr 2 _ rfl; rw [<- bs_list y]; exact this
 have m3:w.cell? ⟨1,53,none⟩ = some (.int .i64 c):=by have:=hT 10 _ hr 3 _ rfl; exact this
 have m4:w.cell? ⟨1,54,none⟩ = some (.string z):=by have:=hT 10 _ hr 4 _ rfl; rw [<- bs_list z]; exact this
 have hlt:=hT.lt
 clear hT hr
 go_enter Tryd.func58,Tryd.ntmps58
 go_wp2_with fail
 exact bodyPost_ret (v:=.agg #[.string x,.int .i64 n,.string y,.int .i64 c,.string z]) (by simp [results,Tryd.results58,go_sem]; try rfl) rfl ⟨rfl,(Below.refl _ w).alloc (Nat.le_refl _) _⟩
theorem by_out (no:Int) (h:no < 1 ∨ 11 < no):Mak 58 #[.int .i64 no] (.agg #[.string ⟨#[]⟩,.int .i64 0,.string ⟨#[]⟩,.int .i64 0,.string ⟨#[]⟩]):=by
 intro w
 by_cases h1:no < 1
 · clear h
   go_enter Tryd.func58,Tryd.ntmps58
   go_wp2_with fail
   exact bodyPost_ret (v:=.agg #[.string ⟨#[]⟩,.int .i64 0,.string ⟨#[]⟩,.int .i64 0,.string ⟨#[]⟩]) (by simp [results,Tryd.results58,go_sem]; try rfl) rfl ⟨rfl,(Below.refl _ w).alloc (Nat.le_refl _) _⟩
 · have h2:11 < no:=by omega
   clear h
   go_enter Tryd.func58,Tryd.ntmps58
   go_wp2_with fail
   exact bodyPost_ret (v:=.agg #[.string ⟨#[]⟩,.int .i64 0,.string ⟨#[]⟩,.int .i64 0,.string ⟨#[]⟩]) (by simp [results,Tryd.results58,go_sem]; try rfl) rfl ⟨rfl,(Below.refl _ w).alloc (Nat.le_refl _) _⟩
theorem row_bs (r:Row):r = ((bs r.1).data.toList,r.2.1,(bs r.2.2.1).data.toList,r.2.2.2.1,(bs r.2.2.2.2).data.toList):=by rw [list_bs,list_bs,list_bs]
theorem row_cases (no:Int):(no < 1 ∨ 11 < no) ∨ no = 1 ∨ no = 2 ∨ no = 3 ∨ no = 4 ∨ no = 5 ∨ no = 6 ∨ no = 7 ∨ no = 8 ∨ no = 9 ∨ no = 10 ∨ no = 11:=by omega
theorem rowOf_out (no:Int) (h:no < 1 ∨ 11 < no):rowOf no = noneR:=if_neg (by omega)
theorem by_k (no:Int):KMk Tabs 58 #[.int .i64 no] (rowV (rowOf no)):=by
 rcases row_cases no with h | rfl | rfl | rfl | rfl | rfl | rfl | rfl | rfl | rfl | rfl | rfl
 · rw [rowOf_out no h]; exact (by_out no h).k
 · exact by_1 _ _ _ _ _ (congrArg some (row_bs _))
 · exact by_2 _ _ _ _ _ (congrArg some (row_bs _))
 · exact by_3 _ _ _ _ _ (congrArg some (row_bs _))
 · exact by_4 _ _ _ _ _ (congrArg some (row_bs _))
 · exact by_5 _ _ _ _ _ (congrArg some (row_bs _))
 · exact by_6 _ _ _ _ _ (congrArg some (row_bs _))
 · exact by_7 _ _ _ _ _ (congrArg some (row_bs _))
 · exact by_8 _ _ _ _ _ (congrArg some (row_bs _))
 · exact by_9 _ _ _ _ _ (congrArg some (row_bs _))
 · exact by_10 _ _ _ _ _ (congrArg some (row_bs _))
 · exact by_11 _ _ _ _ _ (congrArg some (row_bs _))
theorem fld0 (x y z u v:Value) (w:World):(Instr.field 96 (.agg #[x,y,z,u,v]) 0).run Tryd.prog w = .ok x w:=by kernel_rfl
theorem fld1 (x y z u v:Value) (w:World):(Instr.field 96 (.agg #[x,y,z,u,v]) 1).run Tryd.prog w = .ok y w:=by kernel_rfl
theorem fld2 (x y z u v:Value) (w:World):(Instr.field 96 (.agg #[x,y,z,u,v]) 2).run Tryd.prog w = .ok z w:=by kernel_rfl
theorem fld3 (x y z u v:Value) (w:World):(Instr.field 96 (.agg #[x,y,z,u,v]) 3).run Tryd.prog w = .ok u w:=by kernel_rfl
theorem name_core (no:Int) (x y z:ByteArray) (n c:Int) (c1:KMk Tabs 58 #[.int .i64 no] (.agg #[.string x,.int .i64 n,.string y,.int .i64 c,.string z])):KMk Tabs 44 #[.int .i64 no] (.string x):=by
 intro w hT
 have HS:=lH (Since.refl w)
 have HT:=lH hT
 have f0:=fld0 (.string x) (.int .i64 n) (.string y) (.int .i64 c) (.string z)
 have f1:=fld1 (.string x) (.int .i64 n) (.string y) (.int .i64 c) (.string z)
 have f2:=fld2 (.string x) (.int .i64 n) (.string y) (.int .i64 c) (.string z)
 have f3:=fld3 (.string x) (.int .i64 n) (.string y) (.int .i64 c) (.string z)
 clear hT
 go_enter Tryd.func44,Tryd.ntmps44
 go_wp2_with fail
 repeat (with_reducible refine c1.calls0 HT.out ?_; intro wz hz; replace HT:=lH (Kp.keep HT.out hz); replace HS:=lH (HS.out.step hz); clear hz; try go_wp2_with fail)
 go_ret
 exact ⟨rfl,HS.out⟩
theorem name_k (no:Int) (X:ByteArray) (hX:X = bs (rowOf no).1):KMk Tabs 44 #[.int .i64 no] (.string X):=by
 subst hX
 exact name_core no _ _ _ _ _ (by_k no)
def fndL (p:Row -> Bool):List Row -> Nat -> Int × Bool
 | [],_ => (0,false)
 | r :: l,k => if p r then ((k:Int) + 1,true) else fndL p l (k + 1)
end Kind
namespace Curve
theorem scalar_e (no:Int):Ret 66 #[.int .i64 no,.string ⟨#[]⟩] (.bool false):=by
 intro w
 go_enter Tryd.func66,Tryd.ntmps66
 go_wp2_with fail
 go_ret
 exact ⟨rfl,rfl⟩
theorem scalar_w (no n:Int) (s:ByteArray) (hs:0 < s.size) (hz:((s.size:Int) == n) = false) (c1:KMk Tabs 69 #[.int .i64 no] (.int .i64 n)):KMk Tabs 66 #[.int .i64 no,.string s] (.bool false):=by
 intro w hT
 have HS:=lH (Since.refl w)
 have HT:=lH hT
 have b1:=some_bytes s hs
 have b2:=some_bytes_f s hs
 clear hT
 go_enter Tryd.func66,Tryd.ntmps66
 go_wp2_with fail
 repeat (with_reducible refine c1.calls0 HT.out ?_; intro wz hz; replace HT:=lH (Kp.keep HT.out hz); replace HS:=lH (HS.out.step hz); clear hz; try go_wp2_with fail)
 go_ret
 exact ⟨rfl,HS.out⟩
theorem scalar_y (no n:Int) (s:ByteArray) (hs:0 < s.size) (hz:((s.size:Int) == n) = true) (c1:KMk Tabs 69 #[.int .i64 no] (.int .i64 n)) (c2:Mak 70 #[.string s,.string ⟨#[0]⟩] (.string ⟨#[]⟩)):KMk Tabs 66 #[.int .i64 no,.string s] (.bool false):=by
 intro w hT
 have HS:=lH (Since.refl w)
 have HT:=lH hT
 have b1:=some_bytes s hs
 have b2:=some_bytes_f s hs
 clear hT
 go_enter Tryd.func66,Tryd.ntmps66
 go_wp2_with fail
 repeat ((first | with_reducible refine c1.calls0 HT.out ?_ | with_reducible refine c2.calls0 ?_); intro wz hz; replace HT:=lH (Kp.keep HT.out hz); replace HS:=lH (HS.out.step hz); clear hz; try go_wp2_with fail)
 go_ret
 exact ⟨rfl,HS.out⟩
theorem scalar_l (no n:Int) (s Y Z:ByteArray) (q:Bool) (hs:0 < s.size) (hy:0 < Y.size) (hz:((s.size:Int) == n) = true) (hq:Op.bytesLess s.toList Z.toList = q) (c1:KMk Tabs 69 #[.int .i64 no] (.int .i64 n)) (c2:Mak 70 #[.string s,.string ⟨#[0]⟩] (.string Y)) (c3:KMk Tabs 71 #[.int .i64 no] (.string Z)):KMk Tabs 66 #[.int .i64 no,.string s] (.bool q):=by
 intro w hT
 have HS:=lH (Since.refl w)
 have HT:=lH hT
 have b1:=some_bytes s hs
 have b2:=some_bytes_f s hs
 have b3:=some_bytes Y hy
 have b4:=some_bytes_f Y hy
 clear hT
 cases q
 all_goals
   go_enter Tryd.func66,Tryd.ntmps66
   go_wp2_with fail
   repeat ((first | with_reducible refine c1.calls0 HT.out ?_ | with_reducible refine c2.calls0 ?_ | with_reducible refine c3.calls0 HT.out ?_); intro wz hz; replace HT:=lH (Kp.keep HT.out hz); replace HS:=lH (HS.out.step hz); clear hz; try go_wp2_with fail)
   go_ret
   exact ⟨rfl,HS.out⟩
def scB (r:Row) (s:List UInt8):Bool:=decide (s ≠ []) && decide ((s.length:Int) = r.2.1) && s.any (· != 0) && Op.bytesLess s (ordS r).data.toList
theorem any_trim (s:List UInt8):s.any (· != 0) = !(Trim.left 0 (Trim.right 0 s)).isEmpty:=by
 rw [Bool.eq_iff_iff,List.any_eq_true,Bool.not_eq_true',List.isEmpty_eq_false_iff]
 constructor
 · rintro ⟨x,hx,h2⟩ h3
   exact (bne_iff_ne.1 h2) ((Trim.trim_all 0 s).1 h3 x hx)
 · intro h
   apply Classical.byContradiction
   intro h2
   refine h ((Trim.trim_all 0 s).2 fun x hx => Classical.byContradiction fun h3 => h2 ⟨x,hx,by rw [bne_iff_ne]; exact h3⟩)
theorem scalar_k (no:Int) (s:ByteArray) (hm:s.size <= 140737488355328) (q:Bool) (hq:q = scB (rowOf no) s.data.toList):KMk Tabs 66 #[.int .i64 no,.string s] (.bool q):=by
 have hl:s.data.toList.length = s.size:=rfl
 have c1:=width_k no _ rfl
 have c3:=order_k no _ rfl
 have c2:=Trim.trim_mak s hm 0 (by decide) _ rfl
 unfold scB at hq
 by_cases hs:0 < s.size
 · rw [decide_eq_true (show s.data.toList ≠ [] from fun h => by rw [h] at hl; have h9:([]:List UInt8).length = 0:=rfl; omega),Bool.true_and,hl] at hq
   by_cases hz:(s.size:Int) = (rowOf no).2.1
   · rw [decide_eq_true hz,Bool.true_and,any_trim] at hq
     by_cases hy:Trim.left 0 (Trim.right 0 s.data.toList) = []
     · rw [hy] at hq c2
       have:q = false:=hq
       subst this
       exact scalar_y no _ s hs (beq_iff_eq.2 hz) c1 c2
     · have h3:(Trim.left 0 (Trim.right 0 s.data.toList)).isEmpty = false:=by rw [List.isEmpty_eq_false_iff]; exact hy
       rw [h3,Bool.not_false,Bool.true_and] at hq
       refine scalar_l no _ s _ _ q hs ?_ (beq_iff_eq.2 hz) (by rw [toList_d,toList_d]; exact hq.symm) c1 c2 c3
       show 0 < (bs (Trim.left 0 (Trim.right 0 s.data.toList))).data.toList.length
       rw [list_bs]
       exact List.length_pos_iff.2 hy
   · rw [decide_eq_false hz] at hq
     have:q = false:=hq
     subst this
     exact scalar_w no _ s hs (beq_eq_false_iff_ne.2 hz) c1
 · obtain rfl:s = ⟨#[]⟩:=ba_ext (List.eq_nil_of_length_eq_zero (by omega))
   have:q = false:=hq
   subst this
   exact (scalar_e no).k
end Curve
namespace Curve
def KAll:World -> Prop:=fun _ => True
instance:Kp KAll:=⟨fun _ _ => trivial⟩
end Curve
namespace Curve
end Curve
end Go.Proofs.YtcdjfmlanicjlaaDoor
