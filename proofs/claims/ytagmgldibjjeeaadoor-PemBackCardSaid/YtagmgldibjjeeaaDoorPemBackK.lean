/- The law PemBack: what is written is read as it was, and what is read is written so again; no conditions. -/
import Derived.Test.YtagmgldibjjeeaaDoorRows
import Derived.WalkKit
import Derived.ProofKit
import Derived.OpenShut
import Derived.Lib.Hide
import Derived.Test.YtagmgldibjjeeaaDoorPq22
import Derived.Test.YtagmgldibjjeeaaDoorPq7
import Derived.Test.YtagmgldibjjeeaaDoorCards
import Derived.Test.YtagmgldibjjeeaaDoorTie
import Derived.LaidMore
import Derived.SevenTiedAt
import Derived.Stop.Joined
import Derived.Lay
set_option maxRecDepth 100000
namespace Go.Proofs.YtagmgldibjjeeaaDoor.pemBack
open Go.ChangeShapes Go.WideShapes Go.ChangeAt Go.RowKit
open Pm
set_option maxHeartbeats 8000000 in
theorem ok_111 (w:World) (hT:ML w) (nm b s t X y a n c:ByteArray) (l1:nm.size <= 100) (l2:b.size <= 500) (l3:s.size <= 500) (l4:t.size <= 1000) (c4:Mak 12 #[.string y] (.string s)) (c6:KMk ML 10 #[.string a] (.tuple #[.string nm,.string b,.int .i64 0])) (c8:Mak 8 #[.string n,.string c] (.tuple #[.string t,.int .i64 0]))
   (c1:Mak 12 #[.string b] (.string X)) (c2:Mak 6 #[.string X] (.tuple #[.string b,.bool true])) (c3:Mak 6 #[.string s] (.tuple #[.string y,.bool true]))
   (c5:Mak 8 #[.string nm,.string b] (.tuple #[.string a,.int .i64 0])) (c7:KMk ML 10 #[.string t] (.tuple #[.string n,.string c,.int .i64 0])) :
   Calls Tryd.prog 4 #[.string nm,.string b,.string s,.string t] w fun x w' => x = .returned (.bool true) /\ Since w w':=by
 have HT:=lH hT
 have HS:=lH (Since.refl w)
 have t1:decide ((100:Int) < (nm.size:Int)) = false:=decide_eq_false (by omega)
 have t2:decide ((500:Int) < (b.size:Int)) = false:=decide_eq_false (by omega)
 have t3:decide ((500:Int) < (s.size:Int)) = false:=decide_eq_false (by omega)
 have t4:decide ((1000:Int) < (t.size:Int)) = false:=decide_eq_false (by omega)
 have qb:(b.toList == b.toList) = true:=beq_self_eq_true _
 have qs:(s.toList == s.toList) = true:=beq_self_eq_true _
 have qn:(nm.toList == nm.toList) = true:=beq_self_eq_true _
 have qt:(t.toList == t.toList) = true:=beq_self_eq_true _
 have c9:=Pm.awake
 clear hT l1 l2 l3 l4
 go_enter Tryd.func4,Tryd.ntmps4
 go_wp2_with fail
 repeat ((first | with_reducible refine c1.calls0 ?_ | with_reducible refine c2.calls0 ?_ | with_reducible refine c3.calls0 ?_ | with_reducible refine c4.calls0 ?_ | with_reducible refine c5.calls0 ?_ | with_reducible refine c6.calls0 HT.out ?_ | with_reducible refine c7.calls0 HT.out ?_ | with_reducible refine c8.calls0 ?_ | with_reducible refine c9.calls0 HT.out ?_); intro wz hz; replace HT:=lH (Kp.keep HT.out hz); replace HS:=lH (HS.out.step hz); clear hz; try go_wp2_with fail)
 go_ret
 exact ⟨rfl,HS.out⟩
set_option maxHeartbeats 8000000 in
theorem ok_110 (w:World) (hT:ML w) (nm b s t X y a _n _c:ByteArray) (l1:nm.size <= 100) (l2:b.size <= 500) (l3:s.size <= 500) (l4:t.size <= 1000) (c4:Mak 12 #[.string y] (.string s)) (c6:KMk ML 10 #[.string a] (.tuple #[.string nm,.string b,.int .i64 0]))
   (c1:Mak 12 #[.string b] (.string X)) (c2:Mak 6 #[.string X] (.tuple #[.string b,.bool true])) (c3:Mak 6 #[.string s] (.tuple #[.string y,.bool true]))
   (c5:Mak 8 #[.string nm,.string b] (.tuple #[.string a,.int .i64 0])) (c7:KMk ML 10 #[.string t] (.tuple #[.string ⟨#[]⟩,.string ⟨#[]⟩,.int .i64 5])) :
   Calls Tryd.prog 4 #[.string nm,.string b,.string s,.string t] w fun x w' => x = .returned (.bool true) /\ Since w w':=by
 have HT:=lH hT
 have HS:=lH (Since.refl w)
 have t1:decide ((100:Int) < (nm.size:Int)) = false:=decide_eq_false (by omega)
 have t2:decide ((500:Int) < (b.size:Int)) = false:=decide_eq_false (by omega)
 have t3:decide ((500:Int) < (s.size:Int)) = false:=decide_eq_false (by omega)
 have t4:decide ((1000:Int) < (t.size:Int)) = false:=decide_eq_false (by omega)
 have qb:(b.toList == b.toList) = true:=beq_self_eq_true _
 have qs:(s.toList == s.toList) = true:=beq_self_eq_true _
 have qn:(nm.toList == nm.toList) = true:=beq_self_eq_true _
 have qt:(t.toList == t.toList) = true:=beq_self_eq_true _
 have c9:=Pm.awake
 clear hT l1 l2 l3 l4
 go_enter Tryd.func4,Tryd.ntmps4
 go_wp2_with fail
 repeat ((first | with_reducible refine c1.calls0 ?_ | with_reducible refine c2.calls0 ?_ | with_reducible refine c3.calls0 ?_ | with_reducible refine c4.calls0 ?_ | with_reducible refine c5.calls0 ?_ | with_reducible refine c6.calls0 HT.out ?_ | with_reducible refine c7.calls0 HT.out ?_ | with_reducible refine c9.calls0 HT.out ?_); intro wz hz; replace HT:=lH (Kp.keep HT.out hz); replace HS:=lH (HS.out.step hz); clear hz; try go_wp2_with fail)
 go_ret
 exact ⟨rfl,HS.out⟩
set_option maxHeartbeats 8000000 in
theorem ok_101 (w:World) (hT:ML w) (nm b s t X y a n c:ByteArray) (l1:nm.size <= 100) (l2:b.size <= 500) (l3:s.size <= 500) (l4:t.size <= 1000) (c4:Mak 12 #[.string y] (.string s)) (e:Int) (e0:(e == 0) = false) (_e1:(e != 0) = true) (_e2:¬ e = 0) (c8:Mak 8 #[.string n,.string c] (.tuple #[.string t,.int .i64 0]))
   (c1:Mak 12 #[.string b] (.string X)) (c2:Mak 6 #[.string X] (.tuple #[.string b,.bool true])) (c3:Mak 6 #[.string s] (.tuple #[.string y,.bool true]))
   (c5:Mak 8 #[.string nm,.string b] (.tuple #[.string a,.int .i64 e])) (c7:KMk ML 10 #[.string t] (.tuple #[.string n,.string c,.int .i64 0])) :
   Calls Tryd.prog 4 #[.string nm,.string b,.string s,.string t] w fun x w' => x = .returned (.bool true) /\ Since w w':=by
 have HT:=lH hT
 have HS:=lH (Since.refl w)
 have t1:decide ((100:Int) < (nm.size:Int)) = false:=decide_eq_false (by omega)
 have t2:decide ((500:Int) < (b.size:Int)) = false:=decide_eq_false (by omega)
 have t3:decide ((500:Int) < (s.size:Int)) = false:=decide_eq_false (by omega)
 have t4:decide ((1000:Int) < (t.size:Int)) = false:=decide_eq_false (by omega)
 have qb:(b.toList == b.toList) = true:=beq_self_eq_true _
 have qs:(s.toList == s.toList) = true:=beq_self_eq_true _
 have qn:(nm.toList == nm.toList) = true:=beq_self_eq_true _
 have qt:(t.toList == t.toList) = true:=beq_self_eq_true _
 have c9:=Pm.awake
 clear hT l1 l2 l3 l4
 go_enter Tryd.func4,Tryd.ntmps4
 go_wp2_with fail
 repeat ((first | with_reducible refine c1.calls0 ?_ | with_reducible refine c2.calls0 ?_ | with_reducible refine c3.calls0 ?_ | with_reducible refine c4.calls0 ?_ | with_reducible refine c5.calls0 ?_ | with_reducible refine c7.calls0 HT.out ?_ | with_reducible refine c8.calls0 ?_ | with_reducible refine c9.calls0 HT.out ?_); intro wz hz; replace HT:=lH (Kp.keep HT.out hz); replace HS:=lH (HS.out.step hz); clear hz; try go_wp2_with fail)
 go_ret
 exact ⟨rfl,HS.out⟩
set_option maxHeartbeats 8000000 in
theorem ok_100 (w:World) (hT:ML w) (nm b s t X y a _n _c:ByteArray) (l1:nm.size <= 100) (l2:b.size <= 500) (l3:s.size <= 500) (l4:t.size <= 1000) (c4:Mak 12 #[.string y] (.string s)) (e:Int) (e0:(e == 0) = false) (_e1:(e != 0) = true) (_e2:¬ e = 0)
   (c1:Mak 12 #[.string b] (.string X)) (c2:Mak 6 #[.string X] (.tuple #[.string b,.bool true])) (c3:Mak 6 #[.string s] (.tuple #[.string y,.bool true]))
   (c5:Mak 8 #[.string nm,.string b] (.tuple #[.string a,.int .i64 e])) (c7:KMk ML 10 #[.string t] (.tuple #[.string ⟨#[]⟩,.string ⟨#[]⟩,.int .i64 5])) :
   Calls Tryd.prog 4 #[.string nm,.string b,.string s,.string t] w fun x w' => x = .returned (.bool true) /\ Since w w':=by
 have HT:=lH hT
 have HS:=lH (Since.refl w)
 have t1:decide ((100:Int) < (nm.size:Int)) = false:=decide_eq_false (by omega)
 have t2:decide ((500:Int) < (b.size:Int)) = false:=decide_eq_false (by omega)
 have t3:decide ((500:Int) < (s.size:Int)) = false:=decide_eq_false (by omega)
 have t4:decide ((1000:Int) < (t.size:Int)) = false:=decide_eq_false (by omega)
 have qb:(b.toList == b.toList) = true:=beq_self_eq_true _
 have qs:(s.toList == s.toList) = true:=beq_self_eq_true _
 have qn:(nm.toList == nm.toList) = true:=beq_self_eq_true _
 have qt:(t.toList == t.toList) = true:=beq_self_eq_true _
 have c9:=Pm.awake
 clear hT l1 l2 l3 l4
 go_enter Tryd.func4,Tryd.ntmps4
 go_wp2_with fail
 repeat ((first | with_reducible refine c1.calls0 ?_ | with_reducible refine c2.calls0 ?_ | with_reducible refine c3.calls0 ?_ | with_reducible refine c4.calls0 ?_ | with_reducible refine c5.calls0 ?_ | with_reducible refine c7.calls0 HT.out ?_ | with_reducible refine c9.calls0 HT.out ?_); intro wz hz; replace HT:=lH (Kp.keep HT.out hz); replace HS:=lH (HS.out.step hz); clear hz; try go_wp2_with fail)
 go_ret
 exact ⟨rfl,HS.out⟩
set_option maxHeartbeats 8000000 in
theorem ok_011 (w:World) (hT:ML w) (nm b s t X y a n c:ByteArray) (l1:nm.size <= 100) (l2:b.size <= 500) (l3:s.size <= 500) (l4:t.size <= 1000) (c6:KMk ML 10 #[.string a] (.tuple #[.string nm,.string b,.int .i64 0])) (c8:Mak 8 #[.string n,.string c] (.tuple #[.string t,.int .i64 0]))
   (c1:Mak 12 #[.string b] (.string X)) (c2:Mak 6 #[.string X] (.tuple #[.string b,.bool true])) (c3:Mak 6 #[.string s] (.tuple #[.string y,.bool false]))
   (c5:Mak 8 #[.string nm,.string b] (.tuple #[.string a,.int .i64 0])) (c7:KMk ML 10 #[.string t] (.tuple #[.string n,.string c,.int .i64 0])) :
   Calls Tryd.prog 4 #[.string nm,.string b,.string s,.string t] w fun x w' => x = .returned (.bool true) /\ Since w w':=by
 have HT:=lH hT
 have HS:=lH (Since.refl w)
 have t1:decide ((100:Int) < (nm.size:Int)) = false:=decide_eq_false (by omega)
 have t2:decide ((500:Int) < (b.size:Int)) = false:=decide_eq_false (by omega)
 have t3:decide ((500:Int) < (s.size:Int)) = false:=decide_eq_false (by omega)
 have t4:decide ((1000:Int) < (t.size:Int)) = false:=decide_eq_false (by omega)
 have qb:(b.toList == b.toList) = true:=beq_self_eq_true _
 have qs:(s.toList == s.toList) = true:=beq_self_eq_true _
 have qn:(nm.toList == nm.toList) = true:=beq_self_eq_true _
 have qt:(t.toList == t.toList) = true:=beq_self_eq_true _
 have c9:=Pm.awake
 clear hT l1 l2 l3 l4
 go_enter Tryd.func4,Tryd.ntmps4
 go_wp2_with fail
 repeat ((first | with_reducible refine c1.calls0 ?_ | with_reducible refine c2.calls0 ?_ | with_reducible refine c3.calls0 ?_ | with_reducible refine c5.calls0 ?_ | with_reducible refine c6.calls0 HT.out ?_ | with_reducible refine c7.calls0 HT.out ?_ | with_reducible refine c8.calls0 ?_ | with_reducible refine c9.calls0 HT.out ?_); intro wz hz; replace HT:=lH (Kp.keep HT.out hz); replace HS:=lH (HS.out.step hz); clear hz; try go_wp2_with fail)
 go_ret
 exact ⟨rfl,HS.out⟩
set_option maxHeartbeats 8000000 in
theorem ok_010 (w:World) (hT:ML w) (nm b s t X y a _n _c:ByteArray) (l1:nm.size <= 100) (l2:b.size <= 500) (l3:s.size <= 500) (l4:t.size <= 1000) (c6:KMk ML 10 #[.string a] (.tuple #[.string nm,.string b,.int .i64 0]))
   (c1:Mak 12 #[.string b] (.string X)) (c2:Mak 6 #[.string X] (.tuple #[.string b,.bool true])) (c3:Mak 6 #[.string s] (.tuple #[.string y,.bool false]))
   (c5:Mak 8 #[.string nm,.string b] (.tuple #[.string a,.int .i64 0])) (c7:KMk ML 10 #[.string t] (.tuple #[.string ⟨#[]⟩,.string ⟨#[]⟩,.int .i64 5])) :
   Calls Tryd.prog 4 #[.string nm,.string b,.string s,.string t] w fun x w' => x = .returned (.bool true) /\ Since w w':=by
 have HT:=lH hT
 have HS:=lH (Since.refl w)
 have t1:decide ((100:Int) < (nm.size:Int)) = false:=decide_eq_false (by omega)
 have t2:decide ((500:Int) < (b.size:Int)) = false:=decide_eq_false (by omega)
 have t3:decide ((500:Int) < (s.size:Int)) = false:=decide_eq_false (by omega)
 have t4:decide ((1000:Int) < (t.size:Int)) = false:=decide_eq_false (by omega)
 have qb:(b.toList == b.toList) = true:=beq_self_eq_true _
 have qs:(s.toList == s.toList) = true:=beq_self_eq_true _
 have qn:(nm.toList == nm.toList) = true:=beq_self_eq_true _
 have qt:(t.toList == t.toList) = true:=beq_self_eq_true _
 have c9:=Pm.awake
 clear hT l1 l2 l3 l4
 go_enter Tryd.func4,Tryd.ntmps4
 go_wp2_with fail
 repeat ((first | with_reducible refine c1.calls0 ?_ | with_reducible refine c2.calls0 ?_ | with_reducible refine c3.calls0 ?_ | with_reducible refine c5.calls0 ?_ | with_reducible refine c6.calls0 HT.out ?_ | with_reducible refine c7.calls0 HT.out ?_ | with_reducible refine c9.calls0 HT.out ?_); intro wz hz; replace HT:=lH (Kp.keep HT.out hz); replace HS:=lH (HS.out.step hz); clear hz; try go_wp2_with fail)
 go_ret
 exact ⟨rfl,HS.out⟩
set_option maxHeartbeats 8000000 in
theorem ok_001 (w:World) (hT:ML w) (nm b s t X y a n c:ByteArray) (l1:nm.size <= 100) (l2:b.size <= 500) (l3:s.size <= 500) (l4:t.size <= 1000) (e:Int) (e0:(e == 0) = false) (_e1:(e != 0) = true) (_e2:¬ e = 0) (c8:Mak 8 #[.string n,.string c] (.tuple #[.string t,.int .i64 0]))
   (c1:Mak 12 #[.string b] (.string X)) (c2:Mak 6 #[.string X] (.tuple #[.string b,.bool true])) (c3:Mak 6 #[.string s] (.tuple #[.string y,.bool false]))
   (c5:Mak 8 #[.string nm,.string b] (.tuple #[.string a,.int .i64 e])) (c7:KMk ML 10 #[.string t] (.tuple #[.string n,.string c,.int .i64 0])) :
   Calls Tryd.prog 4 #[.string nm,.string b,.string s,.string t] w fun x w' => x = .returned (.bool true) /\ Since w w':=by
 have HT:=lH hT
 have HS:=lH (Since.refl w)
 have t1:decide ((100:Int) < (nm.size:Int)) = false:=decide_eq_false (by omega)
 have t2:decide ((500:Int) < (b.size:Int)) = false:=decide_eq_false (by omega)
 have t3:decide ((500:Int) < (s.size:Int)) = false:=decide_eq_false (by omega)
 have t4:decide ((1000:Int) < (t.size:Int)) = false:=decide_eq_false (by omega)
 have qb:(b.toList == b.toList) = true:=beq_self_eq_true _
 have qs:(s.toList == s.toList) = true:=beq_self_eq_true _
 have qn:(nm.toList == nm.toList) = true:=beq_self_eq_true _
 have qt:(t.toList == t.toList) = true:=beq_self_eq_true _
 have c9:=Pm.awake
 clear hT l1 l2 l3 l4
 go_enter Tryd.func4,Tryd.ntmps4
 go_wp2_with fail
 repeat ((first | with_reducible refine c1.calls0 ?_ | with_reducible refine c2.calls0 ?_ | with_reducible refine c3.calls0 ?_ | with_reducible refine c5.calls0 ?_ | with_reducible refine c7.calls0 HT.out ?_ | with_reducible refine c8.calls0 ?_ | with_reducible refine c9.calls0 HT.out ?_); intro wz hz; replace HT:=lH (Kp.keep HT.out hz); replace HS:=lH (HS.out.step hz); clear hz; try go_wp2_with fail)
 go_ret
 exact ⟨rfl,HS.out⟩
set_option maxHeartbeats 8000000 in
theorem ok_000 (w:World) (hT:ML w) (nm b s t X y a _n _c:ByteArray) (l1:nm.size <= 100) (l2:b.size <= 500) (l3:s.size <= 500) (l4:t.size <= 1000) (e:Int) (e0:(e == 0) = false) (_e1:(e != 0) = true) (_e2:¬ e = 0)
   (c1:Mak 12 #[.string b] (.string X)) (c2:Mak 6 #[.string X] (.tuple #[.string b,.bool true])) (c3:Mak 6 #[.string s] (.tuple #[.string y,.bool false]))
   (c5:Mak 8 #[.string nm,.string b] (.tuple #[.string a,.int .i64 e])) (c7:KMk ML 10 #[.string t] (.tuple #[.string ⟨#[]⟩,.string ⟨#[]⟩,.int .i64 5])) :
   Calls Tryd.prog 4 #[.string nm,.string b,.string s,.string t] w fun x w' => x = .returned (.bool true) /\ Since w w':=by
 have HT:=lH hT
 have HS:=lH (Since.refl w)
 have t1:decide ((100:Int) < (nm.size:Int)) = false:=decide_eq_false (by omega)
 have t2:decide ((500:Int) < (b.size:Int)) = false:=decide_eq_false (by omega)
 have t3:decide ((500:Int) < (s.size:Int)) = false:=decide_eq_false (by omega)
 have t4:decide ((1000:Int) < (t.size:Int)) = false:=decide_eq_false (by omega)
 have qb:(b.toList == b.toList) = true:=beq_self_eq_true _
 have qs:(s.toList == s.toList) = true:=beq_self_eq_true _
 have qn:(nm.toList == nm.toList) = true:=beq_self_eq_true _
 have qt:(t.toList == t.toList) = true:=beq_self_eq_true _
 have c9:=Pm.awake
 clear hT l1 l2 l3 l4
 go_enter Tryd.func4,Tryd.ntmps4
 go_wp2_with fail
 repeat ((first | with_reducible refine c1.calls0 ?_ | with_reducible refine c2.calls0 ?_ | with_reducible refine c3.calls0 ?_ | with_reducible refine c5.calls0 ?_ | with_reducible refine c7.calls0 HT.out ?_ | with_reducible refine c9.calls0 HT.out ?_); intro wz hz; replace HT:=lH (Kp.keep HT.out hz); replace HS:=lH (HS.out.step hz); clear hz; try go_wp2_with fail)
 go_ret
 exact ⟨rfl,HS.out⟩
set_option maxHeartbeats 4000000 in
theorem big_1 (w:World) (hT:ML w) (nm b s t:ByteArray) (t1:decide ((100:Int) < (nm.size:Int)) = true):Calls Tryd.prog 4 #[.string nm,.string b,.string s,.string t] w fun x w' => x = .returned (.bool true) /\ Since w w':=by
 have HT:=lH hT
 have HS:=lH (Since.refl w)
 have c9:=Pm.awake
 clear hT
 go_enter Tryd.func4,Tryd.ntmps4
 go_wp2_with fail
 repeat (with_reducible refine c9.calls0 HT.out ?_; intro wz hz; replace HT:=lH (Kp.keep HT.out hz); replace HS:=lH (HS.out.step hz); clear hz; try go_wp2_with fail)
 go_ret
 exact ⟨rfl,HS.out⟩
set_option maxHeartbeats 4000000 in
theorem big_2 (w:World) (hT:ML w) (nm b s t:ByteArray) (t1:decide ((100:Int) < (nm.size:Int)) = false) (t2:decide ((500:Int) < (b.size:Int)) = true):Calls Tryd.prog 4 #[.string nm,.string b,.string s,.string t] w fun x w' => x = .returned (.bool true) /\ Since w w':=by
 have HT:=lH hT
 have HS:=lH (Since.refl w)
 have c9:=Pm.awake
 clear hT
 go_enter Tryd.func4,Tryd.ntmps4
 go_wp2_with fail
 repeat (with_reducible refine c9.calls0 HT.out ?_; intro wz hz; replace HT:=lH (Kp.keep HT.out hz); replace HS:=lH (HS.out.step hz); clear hz; try go_wp2_with fail)
 go_ret
 exact ⟨rfl,HS.out⟩
set_option maxHeartbeats 4000000 in
theorem big_3 (w:World) (hT:ML w) (nm b s t:ByteArray) (t1:decide ((100:Int) < (nm.size:Int)) = false) (t2:decide ((500:Int) < (b.size:Int)) = false) (t3:decide ((500:Int) < (s.size:Int)) = true):Calls Tryd.prog 4 #[.string nm,.string b,.string s,.string t] w fun x w' => x = .returned (.bool true) /\ Since w w':=by
 have HT:=lH hT
 have HS:=lH (Since.refl w)
 have c9:=Pm.awake
 clear hT
 go_enter Tryd.func4,Tryd.ntmps4
 go_wp2_with fail
 repeat (with_reducible refine c9.calls0 HT.out ?_; intro wz hz; replace HT:=lH (Kp.keep HT.out hz); replace HS:=lH (HS.out.step hz); clear hz; try go_wp2_with fail)
 go_ret
 exact ⟨rfl,HS.out⟩
set_option maxHeartbeats 4000000 in
theorem big_4 (w:World) (hT:ML w) (nm b s t:ByteArray) (t1:decide ((100:Int) < (nm.size:Int)) = false) (t2:decide ((500:Int) < (b.size:Int)) = false) (t3:decide ((500:Int) < (s.size:Int)) = false) (t4:decide ((1000:Int) < (t.size:Int)) = true):Calls Tryd.prog 4 #[.string nm,.string b,.string s,.string t] w fun x w' => x = .returned (.bool true) /\ Since w w':=by
 have HT:=lH hT
 have HS:=lH (Since.refl w)
 have c9:=Pm.awake
 clear hT
 go_enter Tryd.func4,Tryd.ntmps4
 go_wp2_with fail
 repeat (with_reducible refine c9.calls0 HT.out ?_; intro wz hz; replace HT:=lH (Kp.keep HT.out hz); replace HS:=lH (HS.out.step hz); clear hz; try go_wp2_with fail)
 go_ret
 exact ⟨rfl,HS.out⟩
theorem core (w:World) (hT:ML w) (nm b s t:ByteArray) (l1:nm.size <= 100) (l2:b.size <= 500) (l3:s.size <= 500) (l4:t.size <= 1000) :
   Calls Tryd.prog 4 #[.string nm,.string b,.string s,.string t] w fun x w' => x = .returned (.bool true) /\ Since w w':=by
 have lb:b.data.toList.length = b.size:=rfl
 have c1:=base_mk b (by omega)
 obtain ⟨X,hX⟩:∃ X,X = bs (baseL b.data.toList):=⟨_,rfl⟩
 have hXl:X.data.toList = baseL b.data.toList:=by rw [hX,list_bs]
 have hXz:X.size <= 200000:=by
   rw [hX,bs_size,base_len]
   omega
 rw [<- hX] at c1
 have c2:=unbase_mk X hXz
 rw [hXl,unb_base,<- ba_of (a:=b) rfl] at c2
 have c3:=unbase_mk s (by omega)
 obtain ⟨y,hy⟩:∃ y,y = bs (unbV s.data.toList).1:=⟨_,rfl⟩
 rw [<- hy] at c3
 have c5:=armor_mk nm b (by omega)
 obtain ⟨a,ha⟩:∃ a,a = bs (armV nm.data.toList b.data.toList).1:=⟨_,rfl⟩
 rw [<- ha] at c5
 have hal:a.data.toList = (armV nm.data.toList b.data.toList).1:=by rw [ha,list_bs]
 have c7:=unar_mk t (by omega)
 have c4:(unbV s.data.toList).2 = true -> Mak 12 #[.string y] (.string s):=fun h => by
   have h1:=unb_ok h
   have h2:y.data.toList = (unbV s.data.toList).1:=by rw [hy,list_bs]
   have h3:y.size <= 200000:=by
     have h4:=congrArg List.length h1
     rw [base_len] at h4
     have h5:s.data.toList.length = s.size:=rfl
     have h6:y.size = (unbV s.data.toList).1.length:=by rw [hy,bs_size]
     omega
   have h7:=base_mk y h3
   rwa [h2,h1,<- ba_of (a:=s) rfl] at h7
 have c6:(armV nm.data.toList b.data.toList).2 = 0 -> KMk ML 10 #[.string a] (.tuple #[.string nm,.string b,.int .i64 0]):=fun h => by
   have h1:=unar_arm h
   obtain ⟨h2,h3⟩:=arm_ok h
   have h4:a.size <= 100000:=by
     rw [ha,bs_size,h3]
     exact armor_small _ _ (by show nm.size <= 100; omega) (by show b.size <= 500; omega)
   have h5:=unar_mk a h4
   rwa [hal,h1,<- ba_of (a:=nm) rfl,<- ba_of (a:=b) rfl] at h5
 have c8:(unarV t.data.toList).2.2 = 0 -> Mak 8 #[.string (bs (unarV t.data.toList).1),.string (bs (unarV t.data.toList).2.1)] (.tuple #[.string t,.int .i64 0]):=fun h => by
   have h1:=unar_ok h
   have h2:(unarV t.data.toList).1.length <= 100000:=by
     have h3:=(arm_ok (show (armV (unarV t.data.toList).1 (unarV t.data.toList).2.1).2 = 0 by rw [h1])).1
     unfold nameOk at h3
     simp only [Bool.and_eq_true,decide_eq_true_eq] at h3
     omega
   have h4:=armor_mk (bs (unarV t.data.toList).1) (bs (unarV t.data.toList).2.1) (by rw [bs_size]; exact h2)
   rwa [list_bs,list_bs,h1,<- ba_of (a:=t) rfl] at h4
 obtain ⟨e,he⟩:∃ e,e = (armV nm.data.toList b.data.toList).2:=⟨_,rfl⟩
 rw [<- he] at c5 c6
 obtain ⟨is,his⟩:∃ is,is = (unbV s.data.toList).2:=⟨_,rfl⟩
 rw [<- his] at c3 c4
 obtain ⟨n,hn⟩:∃ n,n = bs (unarV t.data.toList).1:=⟨_,rfl⟩
 obtain ⟨c,hc⟩:∃ c,c = bs (unarV t.data.toList).2.1:=⟨_,rfl⟩
 by_cases hf:(unarV t.data.toList).2.2 = 0
 · have c8':=c8 hf
   rw [hf] at c7
   rw [<- hn,<- hc] at c7 c8'
   by_cases h0:e = 0
   · have c6':=c6 h0
     rw [h0] at c5
     cases is
     · exact ok_011 w hT nm b s t X y a n c l1 l2 l3 l4 c6' c8' c1 c2 c3 c5 c7
     · exact ok_111 w hT nm b s t X y a n c l1 l2 l3 l4 (c4 rfl) c6' c8' c1 c2 c3 c5 c7
   · cases is
     · exact ok_001 w hT nm b s t X y a n c l1 l2 l3 l4 e (beq_eq_false_iff_ne.2 h0) (by simpa using h0) h0 c8' c1 c2 c3 c5 c7
     · exact ok_101 w hT nm b s t X y a n c l1 l2 l3 l4 (c4 rfl) e (beq_eq_false_iff_ne.2 h0) (by simpa using h0) h0 c8' c1 c2 c3 c5 c7
 · rw [unar_no hf] at c7
   by_cases h0:e = 0
   · have c6':=c6 h0
     rw [h0] at c5
     cases is
     · exact ok_010 w hT nm b s t X y a n c l1 l2 l3 l4 c6' c1 c2 c3 c5 c7
     · exact ok_110 w hT nm b s t X y a n c l1 l2 l3 l4 (c4 rfl) c6' c1 c2 c3 c5 c7
   · cases is
     · exact ok_000 w hT nm b s t X y a n c l1 l2 l3 l4 e (beq_eq_false_iff_ne.2 h0) (by simpa using h0) h0 c1 c2 c3 c5 c7
     · exact ok_100 w hT nm b s t X y a n c l1 l2 l3 l4 (c4 rfl) e (beq_eq_false_iff_ne.2 h0) (by simpa using h0) h0 c1 c2 c3 c5 c7
theorem walk (nm b s t:ByteArray) (_w0:nm.size <= maxLen) (_w1:b.size <= maxLen) (_w2:s.size <= maxLen) (_w3:t.size <= maxLen) (w:World) (hT:ML w) :
   Calls Tryd.prog 4 #[.string nm,.string b,.string s,.string t] w fun e w' => e = .returned (.bool true) /\ Below w.heap.size w w':=by
 by_cases l1:100 < nm.size
 · exact big_1 w hT nm b s t (decide_eq_true (by omega))
 have t1:decide ((100:Int) < (nm.size:Int)) = false:=decide_eq_false (by omega)
 by_cases l2:500 < b.size
 · exact big_2 w hT nm b s t t1 (decide_eq_true (by omega))
 have t2:decide ((500:Int) < (b.size:Int)) = false:=decide_eq_false (by omega)
 by_cases l3:500 < s.size
 · exact big_3 w hT nm b s t t1 t2 (decide_eq_true (by omega))
 have t3:decide ((500:Int) < (s.size:Int)) = false:=decide_eq_false (by omega)
 by_cases l4:1000 < t.size
 · exact big_4 w hT nm b s t t1 t2 t3 (decide_eq_true (by omega))
 exact core w hT nm b s t (by omega) (by omega) (by omega) (by omega)
theorem own:ownKnob Tryd.prog.godebug = none:=by kernel_rfl
def laidL : List (String × DataW Unit) := [("unicode/utf8.acceptRanges", Rows.laid_unicode_utf8_acceptRanges), ("unicode/utf8.first", Rows.laid_unicode_utf8_first)]
theorem lifted (os:Os) (started:os.Started) (H:Type) (enc:TypeId × Value -> H) :
   ReturnsInHanded {} Tryd.checked os 4 .any (fun w args => (Rows.pemBackSpec.pre enc Tryd.prog Tryd.f4 [] false w args /\ laidMetH Tryd.prog laidL w) /\ sizedMet enc Tryd.prog Tryd.f4 (OpenSpec.ofChange Rows.pemBackSpec) false w args)
     (Rows.pemBackSpec.post enc Tryd.prog Tryd.f4 false true false false):=by
 refine handed_and_shaped (C:=Tryd.checked) (X:=fun w _ => laidMetH Tryd.prog laidL w) (fun _ _ _ hh h => h.of_heap hh) own started (by kernel_rfl) Tryd.func4
   (ChangeSpec.witness_shaped (enc:=enc) (C:=Tryd.checked) (os:=os) (X:=fun w _ => laidMetH Tryd.prog laidL w) false (World.laidAll Tryd.prog os laidL) #[.string ⟨#[]⟩,.string ⟨#[]⟩,.string ⟨#[]⟩,.string ⟨#[]⟩] 8 (World.laidAll_os _ _ _) (World.shaped_of_ZipB (by kernel_rfl) (by kernel_rfl)) (by kernel_rfl) (by kernel_rfl) (by kernel_rfl) (by rw [MakeChecks.laidMetH_plain _ _ _ (by kernel_rfl)]; exact laidMet_laidAll _ (by kernel_rfl) (by kernel_rfl))) ?_
 intro W base args ds gs before hval0 hW hsh _
 have hval:∀ (j:Nat) t v,Tryd.f4.params[j]? = some t -> args[j]? = some v -> Value.okWide Tryd.prog W .any base t v:=hval0
 have hW':=hW
 obtain ⟨p,q,hA0,hV,rfl,hfz,hnd⟩:=hW
 have hA:DataW.TrodAll enc Tryd.prog W 0 (fun _ => true) true Tryd.f4.params.toList args.toList ds p:=hA0
 rw [Tryd.params4] at hA hval
 obtain ⟨v0,vs0,d0,ds0,p0,q0,hargs,rfl,rfl,h0,r0⟩:=trodAll_cons hA
 obtain ⟨v1,vs1,d1,ds1,p1,q1,rfl,rfl,rfl,h1,r1⟩:=trodAll_cons r0
 obtain ⟨v2,vs2,d2,ds2,p2,q2,rfl,rfl,rfl,h2,r2⟩:=trodAll_cons r1
 obtain ⟨v3,vs3,d3,ds3,p3,q3,rfl,rfl,rfl,h3,r3⟩:=trodAll_cons r2
 obtain ⟨rfl,rfl,rfl⟩:=trodAll_nil r3
 obtain rfl:args = #[v0,v1,v2,v3]:=by cases args; simp_all
 obtain ⟨rfl,rfl⟩:=trodVars_none hV
 obtain ⟨a0,rfl,rfl,rfl,w0⟩:=Go.ChangeMaps.open_string Tryd.underlying9 (hval 0 9 v0 rfl rfl) h0
 obtain ⟨a1,rfl,rfl,rfl,w1⟩:=Go.ChangeMaps.open_string Tryd.underlying9 (hval 1 9 v1 rfl rfl) h1
 obtain ⟨a2,rfl,rfl,rfl,w2⟩:=Go.ChangeMaps.open_string Tryd.underlying9 (hval 2 9 v2 rfl rfl) h2
 obtain ⟨a3,rfl,rfl,rfl,w3⟩:=Go.ChangeMaps.open_string Tryd.underlying9 (hval 3 9 v3 rfl rfl) h3
 clear hA0 hval0
 simp only [List.append_nil] at hW'
 refine (walk a0 a1 a2 a3 w0 w1 w2 w3 W (Pm.ml_of hsh)).mono fun e W' ⟨he,hg⟩ => ?_
 subst he
 exact ⟨_,rfl,_,_,_,_,_,[],hW',(trodAll_cons_mk (shut_bool Tryd.underlying4 _) trodAll_mk0),(trodAll_cons_mk (Go.ChangeMaps.shut_string Tryd.underlying9 w0) (trodAll_cons_mk (Go.ChangeMaps.shut_string Tryd.underlying9 w1) (trodAll_cons_mk (Go.ChangeMaps.shut_string Tryd.underlying9 w2) (trodAll_cons_mk (Go.ChangeMaps.shut_string Tryd.underlying9 w3) trodAll_mk0)))),rfl,hg.frame _,fun h => by cases h⟩
theorem over:Rows.pemBackRow.holds Tryd.pinned (OpenSpec.ofChange Rows.pemBackSpec) :=
 OpenClaim.holds_of_wide 4 Tryd.f4 rfl rfl rfl rfl rfl rfl rfl ⟨rfl,rfl,rfl,rfl,rfl⟩ rfl rfl rfl rfl rfl (by kernel_rfl) Tryd.func4 (by kernel_rfl)
   (of_decide_eq_true (by kernel_rfl)) (by unfold Func.isWrapper; first | (rw [if_pos (by decide +kernel)]; kernel_rfl) | (rw [if_neg (by decide +kernel)]; exact ⟨rfl,rfl⟩))
   (fun os started H enc _ => lifted os started H enc)
theorem proved:Rows.PemBackCardSaid :=
 Claim7.holds_tied_plain_at .later [] [.data,.pinned] true Rows.pemBackCard.stood.harness false
   over (fun _ h => by cases h) (by kernel_rfl) (fun _ h => by cases h) pemBack_row_tie rfl ⟨rfl,rfl⟩ (by kernel_rfl) rfl
   (fun f fn hf hfn => by
     obtain rfl : f = 4 := Option.some.inj ((show Tryd.prog.funcNamed "claviger/clavigerlaw46.PemBack" = some 4 by kernel_rfl).symm.trans hf) |>.symm
     obtain rfl:fn = Tryd.f4:=(Option.some.inj (Tryd.func4.symm.trans hfn)).symm
     exact ⟨by kernel_rfl,fun j t ht => by
       rw [Tryd.params4] at ht
       have hm:t ∈ [9,9,9,9]:=by simpa using Array.mem_of_getElem? ht
       have hall:([9,9,9,9].all fun u => !Tryd.prog.wantsStandIn u) = true:=by kernel_rfl
       exact (show Tryd.prog.wantsStandIn t = false by simpa using List.all_eq_true.1 hall t hm)⟩)
   (by kernel_rfl)
end Go.Proofs.YtagmgldibjjeeaaDoor.pemBack
