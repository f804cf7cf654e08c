/- The law BlockTells: any record becomes the key block, any text the record, that the document says, or why not; no conditions. -/
import Derived.Test.YtddlaafpianjbaaGreatDoorRows
import Derived.WalkKit
import Derived.ProofKit
import Derived.OpenShut
import Derived.Lib.Hide
import Derived.Test.YtddlaafpianjbaaGreatDoorBk48
import Derived.Test.YtddlaafpianjbaaGreatDoorCards
import Derived.Test.YtddlaafpianjbaaGreatDoorTie
import Derived.LaidMore
import Derived.SevenTiedAt
import Derived.Stop.Joined
import Derived.Lay
set_option maxRecDepth 100000
set_option maxHeartbeats 8000000
namespace Go.Proofs.YtddlaafpianjbaaGreatDoor.blockTells
open Go.ChangeShapes Go.WideShapes Go.ChangeAt Go.RowKit
open Att Block
theorem bx21 {a b c:World} {x y z:Nat} {K1 K2 K3':Int} {k1 u1 m1 v1 e1 k2 u2 m2 v2 e2 k3 u3 m3 v3 e3:ByteArray} {x1 x2 x3:Value} {L1 L2 L3:List A2} {W:World} (h1:Hid (BX a x K1 k1 u1 m1 v1 e1 x1 L1 W)) (h2:Hid (BX b y K2 k2 u2 m2 v2 e2 x2 L2 W)) (h3:Hid (BX c z K3' k3 u3 m3 v3 e3 x3 L3 W)) :
   Hid (BX a x K1 k1 u1 m1 v1 e1 x1 L1 W) /\ Hid (BX b y K2 k2 u2 m2 v2 e2 x2 L2 W) /\ Hid (BX c z K3' k3 u3 m3 v3 e3 x3 L3 W) /\
   W.cell? ⟨x,0,none⟩ = some (.int .i64 K1) /\ W.cell? ⟨x,1,none⟩ = some (.string k1) /\ W.cell? ⟨x,2,none⟩ = some (x1) /\ W.cell? ⟨x,3,none⟩ = some (.string u1) /\ W.cell? ⟨x,4,none⟩ = some (.string m1) /\ W.cell? ⟨x,5,none⟩ = some (.string v1) /\ W.cell? ⟨x,6,none⟩ = some (.string e1) /\ W.cell? ⟨y,0,none⟩ = some (.int .i64 K2) /\ W.cell? ⟨y,1,none⟩ = some (.string k2) /\ W.cell? ⟨y,2,none⟩ = some (x2) /\ W.cell? ⟨y,3,none⟩ = some (.string u2) /\ W.cell? ⟨y,4,none⟩ = some (.string m2) /\ W.cell? ⟨y,5,none⟩ = some (.string v2) /\ W.cell? ⟨y,6,none⟩ = some (.string e2) /\ W.cell? ⟨z,0,none⟩ = some (.int .i64 K3') /\ W.cell? ⟨z,1,none⟩ = some (.string k3) /\ W.cell? ⟨z,2,none⟩ = some (x3) /\ W.cell? ⟨z,3,none⟩ = some (.string u3) /\ W.cell? ⟨z,4,none⟩ = some (.string m3) /\ W.cell? ⟨z,5,none⟩ = some (.string v3) /\ W.cell? ⟨z,6,none⟩ = some (.string e3) :=
 ⟨h1,h2,h3,h1.out.hb.cell 0 _ rfl,h1.out.hb.cell 1 _ rfl,h1.out.hb.cell 2 _ rfl,h1.out.hb.cell 3 _ rfl,h1.out.hb.cell 4 _ rfl,h1.out.hb.cell 5 _ rfl,h1.out.hb.cell 6 _ rfl,h2.out.hb.cell 0 _ rfl,h2.out.hb.cell 1 _ rfl,h2.out.hb.cell 2 _ rfl,h2.out.hb.cell 3 _ rfl,h2.out.hb.cell 4 _ rfl,h2.out.hb.cell 5 _ rfl,h2.out.hb.cell 6 _ rfl,h3.out.hb.cell 0 _ rfl,h3.out.hb.cell 1 _ rfl,h3.out.hb.cell 2 _ rfl,h3.out.hb.cell 3 _ rfl,h3.out.hb.cell 4 _ rfl,h3.out.hb.cell 5 _ rfl,h3.out.hb.cell 6 _ rfl⟩
theorem core (kek:ByteArray) (w:World) (K:Int) (k:ByteArray) (A:Option Addr) (n q:Nat) (L:List A2) (u m v e:ByteArray) (pads b:ByteArray) (hx:AttsS w (.slice A n q) L) (l1:kek.size <= 100) (l2:pads.size <= 200) (l3:b.size <= 1500) (c0:Rec.RdR 6 L (fun x => #[rv K k u m v e x]) (.bool true))
   (X:ByteArray) (E:Int) (c1:RdE 8 kek pads K k u m v e L (.tuple #[.string X,.int .i64 E])) (c2:RdE 9 kek pads K k u m v e L (.tuple #[.string X,.int .i64 E]))
   (K':Int) (k' u' m' v' e':ByteArray) (L':List A2) (P:ByteArray) (F:Int) (c3:ImG 10 kek b K' k' u' m' v' e' L' P F) (c4:ImG 11 kek b K' k' u' m' v' e' L' P F) (c5:AlkT K' k' u' m' v' e' L')
   (Z:Int) (c6:RdB 13 L (fun x => #[rv K k u m v e x]) (.int .i64 Z)) (c7:RdB 14 L (fun x => #[rv K k u m v e x]) (.int .i64 Z)) (hT:K3 w) :
   Calls Tryz.prog 3 #[.string kek,.agg #[.int .i64 K,.string k,.slice A n q,.string u,.string m,.string v,.string e],.string pads,.string b] w fun x w' => x = .returned (.bool true) /\ Since w w':=by
 have t1:decide ((100:Int) < (kek.size:Int)) = false:=decide_eq_false (by omega)
 have t2:decide ((200:Int) < (pads.size:Int)) = false:=decide_eq_false (by omega)
 have t3:decide ((1500:Int) < (b.size:Int)) = false:=decide_eq_false (by omega)
 have b1:(E == E) = true:=beq_self_eq_true E
 have b2:(F == F) = true:=beq_self_eq_true F
 have b3:(Z == Z) = true:=beq_self_eq_true Z
 have b4:(P.toList == P.toList) = true:=beq_self_eq_true _
 have b5:(X.toList == X.toList) = true:=beq_self_eq_true _
 clear l1 l2 l3
 have hp:=lH (bx_new (K:=K) (k:=k) (u:=u) (m:=m) (v:=v) (e:=e) hT hx)
 have c9:=awake_k
 obtain ⟨_,m0,m1,m2,m3,m4,m5,m6⟩:=bx7 hp
 clear hx hT
 go_enter Tryz.func3,Tryz.ntmps3
 go_wp2_with fail
 clear m0 m1 m2 m3 m4 m5 m6
 refine (c0.calls0 hp.out.hb.tabs.t2 hp.out.atts) ?_
 intro w1 h1
 replace hp:=bxstep (Up.up h1) hp
 clear h1
 obtain ⟨_,m0,m1,m2,m3,m4,m5,m6⟩:=bx7 hp
 go_wp2_with fail
 clear m0 m1 m2 m3 m4 m5 m6
 refine (c1.calls0 hp.out.hb.tabs hp.out.atts) ?_
 intro w2 h2
 replace hp:=bxstep (Up.up h2) hp
 clear h2
 obtain ⟨_,m0,m1,m2,m3,m4,m5,m6⟩:=bx7 hp
 go_wp2_with fail
 clear m0 m1 m2 m3 m4 m5 m6
 refine (c2.calls0 hp.out.hb.tabs hp.out.atts) ?_
 intro w3 h3
 replace hp:=bxstep (Up.up h3) hp
 clear h3
 obtain ⟨_,m0,m1,m2,m3,m4,m5,m6⟩:=bx7 hp
 go_wp2_with fail
 clear m0 m1 m2 m3 m4 m5 m6
 refine (c3 _ hp.out.hb.tabs).mono ?_
 rintro x w5 ⟨a2,rfl,ha,h5⟩
 replace hp:=bxstep h5 hp
 obtain ⟨A2,d2,hav,_⟩:=ha.slice
 subst hav
 unfold R7
 have hq:=lH (bx_new (K:=K') (k:=k') (u:=u') (m:=m') (v:=v') (e:=e') hp.out.hb.tabs ha)
 replace hp:=bxstep hq.out.hb.since hp
 clear h5 ha
 go_wp2_with fail
 refine (c4 _ hp.out.hb.tabs).mono ?_
 rintro x w6 ⟨a3,rfl,ha,h6⟩
 replace hp:=bxstep h6 hp
 replace hq:=bxstep h6 hq
 obtain ⟨A3,d3,hav,_⟩:=ha.slice
 subst hav
 unfold R7
 have hk:=lH (bx_new (K:=K') (k:=k') (u:=u') (m:=m') (v:=v') (e:=e') hp.out.hb.tabs ha)
 replace hp:=bxstep hk.out.hb.since hp
 replace hq:=bxstep hk.out.hb.since hq
 clear h6 ha
 go_wp2_with fail
 obtain ⟨_,_,_,m0,m1,m2,m3,m4,m5,m6,n0,n1,n2,n3,n4,n5,n6,k0,k1,k2,k3,k4,k5,k6⟩:=bx21 hp hq hk
 go_region_held3 (fun W' => Hid (BX w w.heap.size K k u m v e (.slice A n q) L W') /\ Hid (BX w5 w5.heap.size K' k' u' m' v' e' (.slice A2 L'.length d2) L' W') /\ Hid (BX w6 w6.heap.size K' k' u' m' v' e' (.slice A3 L'.length d3) L' W') /\ W'.cell? ⟨w.heap.size,0,none⟩ = some (.int .i64 K) /\ W'.cell? ⟨w.heap.size,1,none⟩ = some (.string k) /\ W'.cell? ⟨w.heap.size,2,none⟩ = some (.slice A n q) /\ W'.cell? ⟨w.heap.size,3,none⟩ = some (.string u) /\ W'.cell? ⟨w.heap.size,4,none⟩ = some (.string m) /\ W'.cell? ⟨w.heap.size,5,none⟩ = some (.string v) /\ W'.cell? ⟨w.heap.size,6,none⟩ = some (.string e) /\ W'.cell? ⟨w5.heap.size,0,none⟩ = some (.int .i64 K') /\ W'.cell? ⟨w5.heap.size,1,none⟩ = some (.string k') /\ W'.cell? ⟨w5.heap.size,2,none⟩ = some ((.slice A2 L'.length d2)) /\ W'.cell? ⟨w5.heap.size,3,none⟩ = some (.string u') /\ W'.cell? ⟨w5.heap.size,4,none⟩ = some (.string m') /\ W'.cell? ⟨w5.heap.size,5,none⟩ = some (.string v') /\ W'.cell? ⟨w5.heap.size,6,none⟩ = some (.string e') /\ W'.cell? ⟨w6.heap.size,0,none⟩ = some (.int .i64 K') /\ W'.cell? ⟨w6.heap.size,1,none⟩ = some (.string k') /\ W'.cell? ⟨w6.heap.size,2,none⟩ = some ((.slice A3 L'.length d3)) /\ W'.cell? ⟨w6.heap.size,3,none⟩ = some (.string u') /\ W'.cell? ⟨w6.heap.size,4,none⟩ = some (.string m') /\ W'.cell? ⟨w6.heap.size,5,none⟩ = some (.string v') /\ W'.cell? ⟨w6.heap.size,6,none⟩ = some (.string e'))
   (first | exact bx21 (by assumption) (by assumption) (by assumption) | exact bx21 (bxdrew (by assumption)) (bxdrew (by assumption)) (bxdrew (by assumption)))
   (first
     | (go_at_call 12; refine c5.calls0 (Hid.out (by first | assumption | exact bxdrew (by assumption)):BX w5 w5.heap.size K' k' u' m' v' e' (.slice A2 L'.length d2) L' _).atts (Hid.out (by first | assumption | exact bxdrew (by assumption)):BX w6 w6.heap.size K' k' u' m' v' e' (.slice A3 L'.length d3) L' _).atts ?_; intro w7 h7; have hp7:Hid (BX w w.heap.size K k u m v e (.slice A n q) L w7):=bxstep h7 (by first | assumption | exact bxdrew (by assumption)); have hq7:Hid (BX w5 w5.heap.size K' k' u' m' v' e' (.slice A2 L'.length d2) L' w7):=bxstep h7 (by first | assumption | exact bxdrew (by assumption)); have hk7:Hid (BX w6 w6.heap.size K' k' u' m' v' e' (.slice A3 L'.length d3) L' w7):=bxstep h7 (by first | assumption | exact bxdrew (by assumption)); clear h7)
     | (go_at_call 13; refine c6.calls0 (Hid.out (by first | assumption | exact bxdrew (by assumption)):BX w w.heap.size K k u m v e (.slice A n q) L _).hb.tabs (Hid.out (by first | assumption | exact bxdrew (by assumption)):BX w w.heap.size K k u m v e (.slice A n q) L _).atts ?_; intro w8 h8; have hp8:Hid (BX w w.heap.size K k u m v e (.slice A n q) L w8):=bxstep h8 (by first | assumption | exact bxdrew (by assumption)); have hq8:Hid (BX w5 w5.heap.size K' k' u' m' v' e' (.slice A2 L'.length d2) L' w8):=bxstep h8 (by first | assumption | exact bxdrew (by assumption)); have hk8:Hid (BX w6 w6.heap.size K' k' u' m' v' e' (.slice A3 L'.length d3) L' w8):=bxstep h8 (by first | assumption | exact bxdrew (by assumption)); clear h8)
     | (go_at_call 14; refine c7.calls0 (Hid.out (by first | assumption | exact bxdrew (by assumption)):BX w w.heap.size K k u m v e (.slice A n q) L _).hb.tabs (Hid.out (by first | assumption | exact bxdrew (by assumption)):BX w w.heap.size K k u m v e (.slice A n q) L _).atts ?_; intro w9 h9; have hp9:Hid (BX w w.heap.size K k u m v e (.slice A n q) L w9):=bxstep h9 (by first | assumption | exact bxdrew (by assumption)); have hq9:Hid (BX w5 w5.heap.size K' k' u' m' v' e' (.slice A2 L'.length d2) L' w9):=bxstep h9 (by first | assumption | exact bxdrew (by assumption)); have hk9:Hid (BX w6 w6.heap.size K' k' u' m' v' e' (.slice A3 L'.length d3) L' w9):=bxstep h9 (by first | assumption | exact bxdrew (by assumption)); clear h9)
     | (go_at_call 7; refine c9.calls0 (Hid.out (by first | assumption | exact bxdrew (by assumption)):BX w w.heap.size K k u m v e (.slice A n q) L _).hb.tabs ?_; intro w10 h10; have hp10:Hid (BX w w.heap.size K k u m v e (.slice A n q) L w10):=bxstep h10 (by first | assumption | exact bxdrew (by assumption)); have hq10:Hid (BX w5 w5.heap.size K' k' u' m' v' e' (.slice A2 L'.length d2) L' w10):=bxstep h10 (by first | assumption | exact bxdrew (by assumption)); have hk10:Hid (BX w6 w6.heap.size K' k' u' m' v' e' (.slice A3 L'.length d3) L' w10):=bxstep h10 (by first | assumption | exact bxdrew (by assumption)); clear h10))
 all_goals
   clear m0 m1 m2 m3 m4 m5 m6 n0 n1 n2 n3 n4 n5 n6 k0 k1 k2 k3 k4 k5 k6
   go_wp2_with fail
   go_ret
   exact ⟨rfl,hp10.out.hb.since⟩
theorem big_1 (kek:ByteArray) (w:World) (K:Int) (k:ByteArray) (A:Option Addr) (n q:Nat) (L:List A2) (u m v e:ByteArray) (pads b:ByteArray) (hx:AttsS w (.slice A n q) L) (l1:100 < kek.size) (hT:K3 w) :
   Calls Tryz.prog 3 #[.string kek,.agg #[.int .i64 K,.string k,.slice A n q,.string u,.string m,.string v,.string e],.string pads,.string b] w fun x w' => x = .returned (.bool true) /\ Since w w':=by
 have t1:decide ((100:Int) < (kek.size:Int)) = true:=decide_eq_true (by omega)
 clear l1
 have hp:=lH (bx_new (K:=K) (k:=k) (u:=u) (m:=m) (v:=v) (e:=e) hT hx)
 have c9:=awake_k
 obtain ⟨_,m0,m1,m2,m3,m4,m5,m6⟩:=bx7 hp
 clear hx hT
 go_enter Tryz.func3,Tryz.ntmps3
 go_wp2_with fail
 clear m0 m1 m2 m3 m4 m5 m6
 refine (c9.calls0 hp.out.hb.tabs) ?_
 intro w9 h9
 replace hp:=bxstep (Up.up h9) hp
 clear h9
 go_wp2_with fail
 go_ret
 exact ⟨rfl,hp.out.hb.since⟩
theorem big_2 (kek:ByteArray) (w:World) (K:Int) (k:ByteArray) (A:Option Addr) (n q:Nat) (L:List A2) (u m v e:ByteArray) (pads b:ByteArray) (hx:AttsS w (.slice A n q) L) (l1:kek.size <= 100) (c0:Rec.RdR 6 L (fun x => #[rv K k u m v e x]) (.bool false)) (hT:K3 w) :
   Calls Tryz.prog 3 #[.string kek,.agg #[.int .i64 K,.string k,.slice A n q,.string u,.string m,.string v,.string e],.string pads,.string b] w fun x w' => x = .returned (.bool true) /\ Since w w':=by
 have t1:decide ((100:Int) < (kek.size:Int)) = false:=decide_eq_false (by omega)
 clear l1
 have hp:=lH (bx_new (K:=K) (k:=k) (u:=u) (m:=m) (v:=v) (e:=e) hT hx)
 have c9:=awake_k
 obtain ⟨_,m0,m1,m2,m3,m4,m5,m6⟩:=bx7 hp
 clear hx hT
 go_enter Tryz.func3,Tryz.ntmps3
 go_wp2_with fail
 clear m0 m1 m2 m3 m4 m5 m6
 refine (c0.calls0 hp.out.hb.tabs.t2 hp.out.atts) ?_
 intro w1 h1
 replace hp:=bxstep (Up.up h1) hp
 clear h1
 obtain ⟨_,m0,m1,m2,m3,m4,m5,m6⟩:=bx7 hp
 go_wp2_with fail
 clear m0 m1 m2 m3 m4 m5 m6
 refine (c9.calls0 hp.out.hb.tabs) ?_
 intro w9 h9
 replace hp:=bxstep (Up.up h9) hp
 clear h9
 go_wp2_with fail
 go_ret
 exact ⟨rfl,hp.out.hb.since⟩
theorem big_3 (kek:ByteArray) (w:World) (K:Int) (k:ByteArray) (A:Option Addr) (n q:Nat) (L:List A2) (u m v e:ByteArray) (pads b:ByteArray) (hx:AttsS w (.slice A n q) L) (l1:kek.size <= 100) (l2:200 < pads.size) (c0:Rec.RdR 6 L (fun x => #[rv K k u m v e x]) (.bool true)) (hT:K3 w) :
   Calls Tryz.prog 3 #[.string kek,.agg #[.int .i64 K,.string k,.slice A n q,.string u,.string m,.string v,.string e],.string pads,.string b] w fun x w' => x = .returned (.bool true) /\ Since w w':=by
 have t1:decide ((100:Int) < (kek.size:Int)) = false:=decide_eq_false (by omega)
 have t2:decide ((200:Int) < (pads.size:Int)) = true:=decide_eq_true (by omega)
 clear l1 l2
 have hp:=lH (bx_new (K:=K) (k:=k) (u:=u) (m:=m) (v:=v) (e:=e) hT hx)
 have c9:=awake_k
 obtain ⟨_,m0,m1,m2,m3,m4,m5,m6⟩:=bx7 hp
 clear hx hT
 go_enter Tryz.func3,Tryz.ntmps3
 go_wp2_with fail
 clear m0 m1 m2 m3 m4 m5 m6
 refine (c0.calls0 hp.out.hb.tabs.t2 hp.out.atts) ?_
 intro w1 h1
 replace hp:=bxstep (Up.up h1) hp
 clear h1
 obtain ⟨_,m0,m1,m2,m3,m4,m5,m6⟩:=bx7 hp
 go_wp2_with fail
 clear m0 m1 m2 m3 m4 m5 m6
 refine (c9.calls0 hp.out.hb.tabs) ?_
 intro w9 h9
 replace hp:=bxstep (Up.up h9) hp
 clear h9
 go_wp2_with fail
 go_ret
 exact ⟨rfl,hp.out.hb.since⟩
theorem big_4 (kek:ByteArray) (w:World) (K:Int) (k:ByteArray) (A:Option Addr) (n q:Nat) (L:List A2) (u m v e:ByteArray) (pads b:ByteArray) (hx:AttsS w (.slice A n q) L) (l1:kek.size <= 100) (l2:pads.size <= 200) (l3:1500 < b.size) (c0:Rec.RdR 6 L (fun x => #[rv K k u m v e x]) (.bool true)) (hT:K3 w) :
   Calls Tryz.prog 3 #[.string kek,.agg #[.int .i64 K,.string k,.slice A n q,.string u,.string m,.string v,.string e],.string pads,.string b] w fun x w' => x = .returned (.bool true) /\ Since w w':=by
 have t1:decide ((100:Int) < (kek.size:Int)) = false:=decide_eq_false (by omega)
 have t2:decide ((200:Int) < (pads.size:Int)) = false:=decide_eq_false (by omega)
 have t3:decide ((1500:Int) < (b.size:Int)) = true:=decide_eq_true (by omega)
 clear l1 l2 l3
 have hp:=lH (bx_new (K:=K) (k:=k) (u:=u) (m:=m) (v:=v) (e:=e) hT hx)
 have c9:=awake_k
 obtain ⟨_,m0,m1,m2,m3,m4,m5,m6⟩:=bx7 hp
 clear hx hT
 go_enter Tryz.func3,Tryz.ntmps3
 go_wp2_with fail
 clear m0 m1 m2 m3 m4 m5 m6
 refine (c0.calls0 hp.out.hb.tabs.t2 hp.out.atts) ?_
 intro w1 h1
 replace hp:=bxstep (Up.up h1) hp
 clear h1
 obtain ⟨_,m0,m1,m2,m3,m4,m5,m6⟩:=bx7 hp
 go_wp2_with fail
 clear m0 m1 m2 m3 m4 m5 m6
 refine (c9.calls0 hp.out.hb.tabs) ?_
 intro w9 h9
 replace hp:=bxstep (Up.up h9) hp
 clear h9
 go_wp2_with fail
 go_ret
 exact ⟨rfl,hp.out.hb.since⟩
theorem head_sizes {u m v e:ByteArray} (h:Plain.headB u m v e = true):u.size <= 100 /\ m.size <= 100 /\ v.size <= 100 /\ e.size <= 100:=by
 unfold Plain.headB at h
 simp only [Bool.and_eq_true,decide_eq_true_eq] at h
 omega
theorem walk (w:World) (kek:ByteArray) (K:Int) (k:ByteArray) (A:Option Addr) (n q:Nat) (L:List A2) (u m v e:ByteArray) (pads b:ByteArray) (_f0:kek.size <= maxLen) (_f1:(Lit.int .i64 K).wf = true) (_f2:k.size <= maxLen) (hx:AttsS w (.slice A n q) L) (_f3:n = L.length) (_f4:∀ p ∈ L,(Lit.int .i64 p.1).wf = true /\ p.2.size <= maxLen) (_f5:u.size <= maxLen) (_f6:m.size <= maxLen) (_f7:v.size <= maxLen) (_f8:e.size <= maxLen) (_f9:pads.size <= maxLen) (_g0:b.size <= maxLen) (hT:K3 w) :
   Calls Tryz.prog 3 #[.string kek,.agg #[.int .i64 K,.string k,.slice A n q,.string u,.string m,.string v,.string e],.string pads,.string b] w fun x w' => x = .returned (.bool true) /\ Below w.heap.size w w':=by
 by_cases l1:100 < kek.size
 · exact big_1 kek w K k A n q L u m v e pads b hx l1 hT
 replace l1:kek.size <= 100:=by omega
 have c0:=Rec.plain_rec K k u m v e L
 cases hb:Rec.plainB k u m v e L with
 | false => rw [hb] at c0; exact big_2 kek w K k A n q L u m v e pads b hx l1 c0 hT
 | true =>
   rw [hb] at c0
   obtain ⟨h1,h2,h3⟩:=Rec.plain_small hb
   have hz:=head_sizes h3
   by_cases l2:200 < pads.size
   · exact big_3 kek w K k A n q L u m v e pads b hx l1 l2 c0 hT
   replace l2:pads.size <= 200:=by omega
   by_cases l3:1500 < b.size
   · exact big_4 kek w K k A n q L u m v e pads b hx l1 l2 l3 c0 hT
   replace l3:b.size <= 1500:=by omega
   have c1:=export_b kek pads K k u m v e L h1 l2 l1 hz
   have c2:=rexport_b kek pads K k u m v e L h1 l2 l1 hz
   have c6:=size_b K k u m v e L h1 hz
   have c7:=rsize_b K k u m v e L h1 hz
   rcases import_b kek b l3 l1 with ⟨E,-,d1,d2⟩ | ⟨K',k',P,d1,d2,-⟩
   · exact core kek w K k A n q L u m v e pads b hx l1 l2 l3 c0 _ _ c1 c2 _ _ _ _ _ _ _ _ _ (no_g d1) (no_g d2) (alike_t _ _ _ _ _ _ _) _ c6 c7 hT
   · exact core kek w K k A n q L u m v e pads b hx l1 l2 l3 c0 _ _ c1 c2 _ _ _ _ _ _ _ _ _ d1.g d2.g (alike_t _ _ _ _ _ _ _) _ c6 c7 hT
theorem own:ownKnob Tryz.prog.godebug = none:=by kernel_rfl
theorem laidOut:laidOutB Tryz.prog = true:=by kernel_rfl
def laidL:List (String × DataW Unit):=[("unicode/utf8.acceptRanges",Rows.laid_unicode_utf8_acceptRanges),("claviger/curve.lines",Rows.laid_claviger_curve_lines),("claviger/kind.lines",Rows.laid_claviger_kind_lines),("claviger/table.lines",Rows.laid_claviger_table_lines),("unicode/utf8.first",Rows.laid_unicode_utf8_first)]
theorem lifted (os:Os) (started:os.Started) (H:Type) (enc:TypeId × Value -> H) :
   ReturnsInHanded {} Tryz.checked os 3 .any (fun w args => (Rows.blockTellsSpec.pre enc Tryz.prog Tryz.f3 [] false w args /\ laidMetH Tryz.prog laidL w) /\ sizedMet enc Tryz.prog Tryz.f3 (OpenSpec.ofChange Rows.blockTellsSpec) false w args)
     (Rows.blockTellsSpec.post enc Tryz.prog Tryz.f3 false true false false):=by
 refine returnsInHanded_of_change_and (C:=Tryz.checked) (X:=fun w _ => laidMetH Tryz.prog laidL w) (fun _ _ _ hh h => h.of_heap hh) own started (by kernel_rfl) Tryz.func3
   (ChangeSpec.witness_shaped (enc:=enc) (C:=Tryz.checked) (os:=os) (X:=fun w _ => laidMetH Tryz.prog laidL w) false (World.laidAll Tryz.prog os laidL) #[.string ⟨#[]⟩,.agg #[.int .i64 0,.string ⟨#[]⟩,.slice none 0 0,.string ⟨#[]⟩,.string ⟨#[]⟩,.string ⟨#[]⟩,.string ⟨#[]⟩],.string ⟨#[]⟩,.string ⟨#[]⟩] 8 (World.laidAll_os _ _ _) (World.shaped_of_ZipB (by kernel_rfl) (by kernel_rfl)) (by kernel_rfl) (by kernel_rfl) (by kernel_rfl) (by rw [MakeChecks.laidMetH_plain _ _ _ (by kernel_rfl)]; exact laidMet_laidAll _ (by kernel_rfl) (by kernel_rfl))) ?_
 intro W base args ds gs before hval0 hW _ _ hL _
 have hval:∀ (j:Nat) t v,Tryz.f3.params[j]? = some t -> args[j]? = some v -> Value.okWide Tryz.prog W .any base t v:=hval0
 have hW':=hW
 obtain ⟨p,q,hA0,hV,rfl,hfz,hnd⟩:=hW
 have hA:DataW.TrodAll enc Tryz.prog W 0 (fun _ => true) true Tryz.f3.params.toList args.toList ds p:=hA0
 rw [Tryz.params3] at hA hval
 obtain ⟨v0,vs0,d0,ds0,p0,q0,hargs,rfl,rfl,h0,r0⟩:=trodAll_cons hA
 obtain ⟨v1,vs1,d1,ds1,p1,q1,rfl,rfl,rfl,h1,r1⟩:=trodAll_cons r0
 obtain ⟨v2,vs2,d2,ds2,p2,q2,rfl,rfl,rfl,h2,r2⟩:=trodAll_cons r1
 obtain ⟨v3,vs3,d3,ds3,p3,q3,rfl,rfl,rfl,h3,r3⟩:=trodAll_cons r2
 obtain ⟨rfl,rfl,rfl⟩:=trodAll_nil r3
 obtain rfl:args = #[v0,v1,v2,v3]:=by cases args; simp_all
 obtain ⟨rfl,rfl⟩:=trodVars_none hV
 obtain ⟨a0,rfl,rfl,rfl,w0⟩:=Go.ChangeMaps.open_string Tryz.underlying9 (hval 0 9 v0 rfl rfl) h0
 have h1k:=h1
 have hlt1:∀ x ∈ p1,x.block < W.heap.size:=fun x hx => by simpa using hW'.lt x (by simp [hx])
 obtain ⟨a1_K,a1_k,a1_A,a1_n,a1_q,a1_L,a1_u,a1_m,a1_v,a1_e,rfl,f1_0,f1_1,f1_2,f1_3,f1_4,f1_5,f1_6,f1_7,f1_8⟩:=Rec.record_arg (hval 1 26 v1 rfl rfl) h1 hlt1
 obtain ⟨a2,rfl,rfl,rfl,w2⟩:=Go.ChangeMaps.open_string Tryz.underlying9 (hval 2 9 v2 rfl rfl) h2
 obtain ⟨a3,rfl,rfl,rfl,w3⟩:=Go.ChangeMaps.open_string Tryz.underlying9 (hval 3 9 v3 rfl rfl) h3
 clear hA0 hval0
 simp only [List.append_nil] at hW'
 refine (walk W a0 a1_K a1_k a1_A a1_n a1_q a1_L a1_u a1_m a1_v a1_e a2 a3 w0 f1_0 f1_1 f1_2 f1_3 f1_4 f1_5 f1_6 f1_7 f1_8 w2 w3 (Block.tabs5_of hL)).mono fun e W' ⟨he,hg⟩ => ?_
 subst he
 exact ⟨_,rfl,_,_,_,_,_,[],hW',(trodAll_cons_mk (shut_bool Tryz.underlying4 _) trodAll_mk0),(trodAll_cons_mk (Go.ChangeMaps.shut_string Tryz.underlying9 w0) (trodAll_cons_mk (Below.trod laidOut (by kernel_rfl) (of_decide_eq_true (by kernel_rfl)) h1k hg hlt1) (trodAll_cons_mk (Go.ChangeMaps.shut_string Tryz.underlying9 w2) (trodAll_cons_mk (Go.ChangeMaps.shut_string Tryz.underlying9 w3) trodAll_mk0)))),rfl,hg.frame _,fun h => by cases h⟩
theorem over:Rows.blockTellsRow.holds Tryz.pinned (OpenSpec.ofChange Rows.blockTellsSpec) :=
 OpenClaim.holds_of_wide 3 Tryz.f3 rfl rfl rfl rfl rfl rfl rfl ⟨rfl,rfl,rfl,rfl,rfl⟩ rfl rfl rfl rfl rfl (by kernel_rfl) Tryz.func3 (by kernel_rfl)
   (of_decide_eq_true (by kernel_rfl)) (by unfold Func.isWrapper; first | (rw [if_pos (by decide +kernel)]; kernel_rfl) | (rw [if_neg (by decide +kernel)]; exact ⟨rfl,rfl⟩))
   (fun os started H enc _ => lifted os started H enc)
theorem proved:Rows.BlockTellsCardSaid :=
 Claim7.holds_tied_plain_at .later [] [.data,.data,.data,.data,.pinned] true Rows.blockTellsCard.stood.harness false
   over (fun _ h => by cases h) (by kernel_rfl) (fun _ h => by cases h) blockTells_row_tie rfl ⟨rfl,rfl⟩ (by kernel_rfl) rfl
   (fun f fn hf hfn => by
     obtain rfl:f = 3:=Option.some.inj ((show Tryz.prog.funcNamed "claviger/clavigerlaw39.BlockTells" = some 3 by kernel_rfl).symm.trans hf) |>.symm
     obtain rfl:fn = Tryz.f3:=(Option.some.inj (Tryz.func3.symm.trans hfn)).symm
     exact ⟨by kernel_rfl,fun j t ht => by
       rw [Tryz.params3] at ht
       have hm:t ∈ [9,26,9,9]:=by simpa using Array.mem_of_getElem? ht
       have hall:([9,26,9,9].all fun u => !Tryz.prog.wantsStandIn u) = true:=by kernel_rfl
       exact (show Tryz.prog.wantsStandIn t = false by simpa using List.all_eq_true.1 hall t hm)⟩)
   (by kernel_rfl)
end Go.Proofs.YtddlaafpianjbaaGreatDoor.blockTells
