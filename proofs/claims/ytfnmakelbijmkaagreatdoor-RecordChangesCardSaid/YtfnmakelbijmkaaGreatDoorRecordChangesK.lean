/- The law RecordChanges: a record with an attribute, and without one, is what the document says; whether two are the same, too; what was handed in stays; no conditions. -/
import Derived.Test.YtfnmakelbijmkaaGreatDoorRows
import Derived.WalkKit
import Derived.ProofKit
import Derived.OpenShut
import Derived.Lib.Hide
import Derived.Test.YtfnmakelbijmkaaGreatDoorRh52
import Derived.Test.YtfnmakelbijmkaaGreatDoorRh53
import Derived.Test.YtfnmakelbijmkaaGreatDoorCards
import Derived.Test.YtfnmakelbijmkaaGreatDoorTie
import Derived.LaidMore
import Derived.SevenTiedAt
import Derived.Stop.Joined
import Derived.Lay
set_option maxRecDepth 100000
namespace Go.Proofs.YtfnmakelbijmkaaGreatDoor.recordChanges
open Go.ChangeShapes Go.WideShapes Go.ChangeAt Go.RowKit
open Att Rec Rcd Kind Atf Rw Flt Tlv
abbrev C7 (W:World) (g:Nat) (a b c d e f k:Value):Prop:=W.cell? ⟨g,0,none⟩ = some a /\ W.cell? ⟨g,1,none⟩ = some b /\ W.cell? ⟨g,2,none⟩ = some c /\ W.cell? ⟨g,3,none⟩ = some d /\ W.cell? ⟨g,4,none⟩ = some e /\ W.cell? ⟨g,5,none⟩ = some f /\ W.cell? ⟨g,6,none⟩ = some k
theorem c7_since {W W':World} {g:Nat} {a b c d e f k:Value} (h:C7 W g a b c d e f k) (hs:Since W W'):C7 W' g a b c d e f k:=by
 obtain ⟨h0,h1,h2,h3,h4,h5,h6⟩:=h
 exact ⟨(Below.cell hs (p:=⟨g,0,none⟩) (lt_cell h0)).trans h0,(Below.cell hs (p:=⟨g,1,none⟩) (lt_cell h1)).trans h1,(Below.cell hs (p:=⟨g,2,none⟩) (lt_cell h2)).trans h2,(Below.cell hs (p:=⟨g,3,none⟩) (lt_cell h3)).trans h3,(Below.cell hs (p:=⟨g,4,none⟩) (lt_cell h4)).trans h4,(Below.cell hs (p:=⟨g,5,none⟩) (lt_cell h5)).trans h5,(Below.cell hs (p:=⟨g,6,none⟩) (lt_cell h6)).trans h6⟩
theorem c7_box (W:World) (a b c d e f k:Value) (t:TypeId):C7 (W.alloc (.cells #[a,b,c,d,e,f,k] t)) W.heap.size a b c d e f k:=⟨(World.cell?_alloc_new _ _ _ _).trans rfl,(World.cell?_alloc_new _ _ _ _).trans rfl,(World.cell?_alloc_new _ _ _ _).trans rfl,(World.cell?_alloc_new _ _ _ _).trans rfl,(World.cell?_alloc_new _ _ _ _).trans rfl,(World.cell?_alloc_new _ _ _ _).trans rfl,(World.cell?_alloc_new _ _ _ _).trans rfl⟩
set_option maxHeartbeats 32000000 in
theorem big_1 (w:World) (K:Int) (k:ByteArray) (A:Option Addr) (n q:Nat) (L:List A2) (u m v e:ByteArray) (K9:Int) (k9:ByteArray) (A9:Option Addr) (n9 q9:Nat) (L9:List A2) (u9 m9 v9 e9:ByteArray) (t:Int) (y:ByteArray) (hx:AttsS w (.slice A n q) L) (hx9:AttsS w (.slice A9 n9 q9) L9) (c0:RdR 4 L (fun x => #[rv K k u m v e x]) (.bool false)) (hT:Tab2 w) :
   Calls Tryz.prog 3 #[.agg #[.int .i64 K,.string k,.slice A n q,.string u,.string m,.string v,.string e],.agg #[.int .i64 K9,.string k9,.slice A9 n9 q9,.string u9,.string m9,.string v9,.string e9],.int .i64 t,.string y] w fun x w' => x = .returned (.bool true) /\ Since w w':=by
 have c9:=awake27
 have hC:=lH (c7_box w (.int .i64 K) (.string k) (.slice A n q) (.string u) (.string m) (.string v) (.string e) 26)
 have hC9:=lH (c7_box (w.alloc (.cells #[.int .i64 K,.string k,.slice A n q,.string u,.string m,.string v,.string e] 26)) (.int .i64 K9) (.string k9) (.slice A9 n9 q9) (.string u9) (.string m9) (.string v9) (.string e9) 26)
 replace hC:=lH (c7_since hC.out ((Since.refl _).alloc (.cells #[.int .i64 K9,.string k9,.slice A9 n9 q9,.string u9,.string m9,.string v9,.string e9] 26)))
 have HS:=lH (((Since.refl w).alloc (.cells #[.int .i64 K,.string k,.slice A n q,.string u,.string m,.string v,.string e] 26)).alloc (.cells #[.int .i64 K9,.string k9,.slice A9 n9 q9,.string u9,.string m9,.string v9,.string e9] 26))
 have HX:=lH (hx.since HS.out)
 have HX9:=lH (hx9.since HS.out)
 have HT:=lH (Tab2.since hT HS.out)
 rw [show (w.alloc (.cells #[.int .i64 K,.string k,.slice A n q,.string u,.string m,.string v,.string e] 26)).heap.size = w.heap.size + 1 by simp] at hC9
 obtain ⟨m0,m1,m2,m3,m4,m5,m6⟩:=hC.out
 obtain ⟨n0,n1,n2,n3,n4,n5,n6⟩:=hC9.out
 clear hx hx9 hT
 go_enter Tryz.func3,Tryz.ntmps3
 go_wp2_with fail
 refine c0.calls0 HT.out HX.out ?_
 intro w1 hq
 replace hC:=lH (c7_since hC.out hq)
 replace hC9:=lH (c7_since hC9.out hq)
 replace HX:=lH (HX.out.since hq)
 replace HX9:=lH (HX9.out.since hq)
 replace HT:=lH (Tab2.since HT.out hq)
 replace HS:=lH (HS.out.step hq)
 clear hq
 clear m0 m1 m2 m3 m4 m5 m6 n0 n1 n2 n3 n4 n5 n6
 obtain ⟨m0,m1,m2,m3,m4,m5,m6⟩:=hC.out
 obtain ⟨n0,n1,n2,n3,n4,n5,n6⟩:=hC9.out
 go_wp2_with fail
 refine c9.calls0 HT.out ?_
 intro w2 hq
 replace hC:=lH (c7_since hC.out hq)
 replace hC9:=lH (c7_since hC9.out hq)
 replace HX:=lH (HX.out.since hq)
 replace HX9:=lH (HX9.out.since hq)
 replace HT:=lH (Tab2.since HT.out hq)
 replace HS:=lH (HS.out.step hq)
 clear hq
 clear m0 m1 m2 m3 m4 m5 m6 n0 n1 n2 n3 n4 n5 n6
 go_wp2_with fail
 go_ret
 exact ⟨rfl,HS.out⟩
set_option maxHeartbeats 32000000 in
theorem big_2 (w:World) (K:Int) (k:ByteArray) (A:Option Addr) (n q:Nat) (L:List A2) (u m v e:ByteArray) (K9:Int) (k9:ByteArray) (A9:Option Addr) (n9 q9:Nat) (L9:List A2) (u9 m9 v9 e9:ByteArray) (t:Int) (y:ByteArray) (hx:AttsS w (.slice A n q) L) (hx9:AttsS w (.slice A9 n9 q9) L9) (c0:RdR 4 L (fun x => #[rv K k u m v e x]) (.bool true)) (c1:RdR 4 L9 (fun x => #[rv K9 k9 u9 m9 v9 e9 x]) (.bool false)) (hT:Tab2 w) :
   Calls Tryz.prog 3 #[.agg #[.int .i64 K,.string k,.slice A n q,.string u,.string m,.string v,.string e],.agg #[.int .i64 K9,.string k9,.slice A9 n9 q9,.string u9,.string m9,.string v9,.string e9],.int .i64 t,.string y] w fun x w' => x = .returned (.bool true) /\ Since w w':=by
 have c9:=awake27
 have hC:=lH (c7_box w (.int .i64 K) (.string k) (.slice A n q) (.string u) (.string m) (.string v) (.string e) 26)
 have hC9:=lH (c7_box (w.alloc (.cells #[.int .i64 K,.string k,.slice A n q,.string u,.string m,.string v,.string e] 26)) (.int .i64 K9) (.string k9) (.slice A9 n9 q9) (.string u9) (.string m9) (.string v9) (.string e9) 26)
 replace hC:=lH (c7_since hC.out ((Since.refl _).alloc (.cells #[.int .i64 K9,.string k9,.slice A9 n9 q9,.string u9,.string m9,.string v9,.string e9] 26)))
 have HS:=lH (((Since.refl w).alloc (.cells #[.int .i64 K,.string k,.slice A n q,.string u,.string m,.string v,.string e] 26)).alloc (.cells #[.int .i64 K9,.string k9,.slice A9 n9 q9,.string u9,.string m9,.string v9,.string e9] 26))
 have HX:=lH (hx.since HS.out)
 have HX9:=lH (hx9.since HS.out)
 have HT:=lH (Tab2.since hT HS.out)
 rw [show (w.alloc (.cells #[.int .i64 K,.string k,.slice A n q,.string u,.string m,.string v,.string e] 26)).heap.size = w.heap.size + 1 by simp] at hC9
 obtain ⟨m0,m1,m2,m3,m4,m5,m6⟩:=hC.out
 obtain ⟨n0,n1,n2,n3,n4,n5,n6⟩:=hC9.out
 clear hx hx9 hT
 go_enter Tryz.func3,Tryz.ntmps3
 go_wp2_with fail
 refine c0.calls0 HT.out HX.out ?_
 intro w1 hq
 replace hC:=lH (c7_since hC.out hq)
 replace hC9:=lH (c7_since hC9.out hq)
 replace HX:=lH (HX.out.since hq)
 replace HX9:=lH (HX9.out.since hq)
 replace HT:=lH (Tab2.since HT.out hq)
 replace HS:=lH (HS.out.step hq)
 clear hq
 clear m0 m1 m2 m3 m4 m5 m6 n0 n1 n2 n3 n4 n5 n6
 obtain ⟨m0,m1,m2,m3,m4,m5,m6⟩:=hC.out
 obtain ⟨n0,n1,n2,n3,n4,n5,n6⟩:=hC9.out
 go_wp2_with fail
 refine c1.calls0 HT.out HX9.out ?_
 intro w2 hq
 replace hC:=lH (c7_since hC.out hq)
 replace hC9:=lH (c7_since hC9.out hq)
 replace HX:=lH (HX.out.since hq)
 replace HX9:=lH (HX9.out.since hq)
 replace HT:=lH (Tab2.since HT.out hq)
 replace HS:=lH (HS.out.step hq)
 clear hq
 clear m0 m1 m2 m3 m4 m5 m6 n0 n1 n2 n3 n4 n5 n6
 obtain ⟨m0,m1,m2,m3,m4,m5,m6⟩:=hC.out
 obtain ⟨n0,n1,n2,n3,n4,n5,n6⟩:=hC9.out
 go_wp2_with fail
 refine c9.calls0 HT.out ?_
 intro w3 hq
 replace hC:=lH (c7_since hC.out hq)
 replace hC9:=lH (c7_since hC9.out hq)
 replace HX:=lH (HX.out.since hq)
 replace HX9:=lH (HX9.out.since hq)
 replace HT:=lH (Tab2.since HT.out hq)
 replace HS:=lH (HS.out.step hq)
 clear hq
 clear m0 m1 m2 m3 m4 m5 m6 n0 n1 n2 n3 n4 n5 n6
 go_wp2_with fail
 go_ret
 exact ⟨rfl,HS.out⟩
set_option maxHeartbeats 32000000 in
theorem big_3 (w:World) (K:Int) (k:ByteArray) (A:Option Addr) (n q:Nat) (L:List A2) (u m v e:ByteArray) (K9:Int) (k9:ByteArray) (A9:Option Addr) (n9 q9:Nat) (L9:List A2) (u9 m9 v9 e9:ByteArray) (t:Int) (y:ByteArray) (hx:AttsS w (.slice A n q) L) (hx9:AttsS w (.slice A9 n9 q9) L9) (c0:RdR 4 L (fun x => #[rv K k u m v e x]) (.bool true)) (c1:RdR 4 L9 (fun x => #[rv K9 k9 u9 m9 v9 e9 x]) (.bool true)) (l1:300 < y.size) (hT:Tab2 w) :
   Calls Tryz.prog 3 #[.agg #[.int .i64 K,.string k,.slice A n q,.string u,.string m,.string v,.string e],.agg #[.int .i64 K9,.string k9,.slice A9 n9 q9,.string u9,.string m9,.string v9,.string e9],.int .i64 t,.string y] w fun x w' => x = .returned (.bool true) /\ Since w w':=by
 have t1:decide ((300:Int) < (y.size:Int)) = true:=decide_eq_true (by omega)
 have c9:=awake27
 have hC:=lH (c7_box w (.int .i64 K) (.string k) (.slice A n q) (.string u) (.string m) (.string v) (.string e) 26)
 have hC9:=lH (c7_box (w.alloc (.cells #[.int .i64 K,.string k,.slice A n q,.string u,.string m,.string v,.string e] 26)) (.int .i64 K9) (.string k9) (.slice A9 n9 q9) (.string u9) (.string m9) (.string v9) (.string e9) 26)
 replace hC:=lH (c7_since hC.out ((Since.refl _).alloc (.cells #[.int .i64 K9,.string k9,.slice A9 n9 q9,.string u9,.string m9,.string v9,.string e9] 26)))
 have HS:=lH (((Since.refl w).alloc (.cells #[.int .i64 K,.string k,.slice A n q,.string u,.string m,.string v,.string e] 26)).alloc (.cells #[.int .i64 K9,.string k9,.slice A9 n9 q9,.string u9,.string m9,.string v9,.string e9] 26))
 have HX:=lH (hx.since HS.out)
 have HX9:=lH (hx9.since HS.out)
 have HT:=lH (Tab2.since hT HS.out)
 rw [show (w.alloc (.cells #[.int .i64 K,.string k,.slice A n q,.string u,.string m,.string v,.string e] 26)).heap.size = w.heap.size + 1 by simp] at hC9
 obtain ⟨m0,m1,m2,m3,m4,m5,m6⟩:=hC.out
 obtain ⟨n0,n1,n2,n3,n4,n5,n6⟩:=hC9.out
 clear hx hx9 hT
 go_enter Tryz.func3,Tryz.ntmps3
 go_wp2_with fail
 refine c0.calls0 HT.out HX.out ?_
 intro w1 hq
 replace hC:=lH (c7_since hC.out hq)
 replace hC9:=lH (c7_since hC9.out hq)
 replace HX:=lH (HX.out.since hq)
 replace HX9:=lH (HX9.out.since hq)
 replace HT:=lH (Tab2.since HT.out hq)
 replace HS:=lH (HS.out.step hq)
 clear hq
 clear m0 m1 m2 m3 m4 m5 m6 n0 n1 n2 n3 n4 n5 n6
 obtain ⟨m0,m1,m2,m3,m4,m5,m6⟩:=hC.out
 obtain ⟨n0,n1,n2,n3,n4,n5,n6⟩:=hC9.out
 go_wp2_with fail
 refine c1.calls0 HT.out HX9.out ?_
 intro w2 hq
 replace hC:=lH (c7_since hC.out hq)
 replace hC9:=lH (c7_since hC9.out hq)
 replace HX:=lH (HX.out.since hq)
 replace HX9:=lH (HX9.out.since hq)
 replace HT:=lH (Tab2.since HT.out hq)
 replace HS:=lH (HS.out.step hq)
 clear hq
 clear m0 m1 m2 m3 m4 m5 m6 n0 n1 n2 n3 n4 n5 n6
 obtain ⟨m0,m1,m2,m3,m4,m5,m6⟩:=hC.out
 obtain ⟨n0,n1,n2,n3,n4,n5,n6⟩:=hC9.out
 go_wp2_with fail
 refine c9.calls0 HT.out ?_
 intro w3 hq
 replace hC:=lH (c7_since hC.out hq)
 replace hC9:=lH (c7_since hC9.out hq)
 replace HX:=lH (HX.out.since hq)
 replace HX9:=lH (HX9.out.since hq)
 replace HT:=lH (Tab2.since HT.out hq)
 replace HS:=lH (HS.out.step hq)
 clear hq
 clear m0 m1 m2 m3 m4 m5 m6 n0 n1 n2 n3 n4 n5 n6
 go_wp2_with fail
 go_ret
 exact ⟨rfl,HS.out⟩
set_option maxHeartbeats 32000000 in
theorem core (w:World) (K:Int) (k:ByteArray) (A:Option Addr) (n q:Nat) (L:List A2) (u m v e:ByteArray) (K9:Int) (k9:ByteArray) (A9:Option Addr) (n9 q9:Nat) (L9:List A2) (u9 m9 v9 e9:ByteArray) (t:Int) (y:ByteArray) (hx:AttsS w (.slice A n q) L) (hx9:AttsS w (.slice A9 n9 q9) L9) (c0:RdR 4 L (fun x => #[rv K k u m v e x]) (.bool true)) (c1:RdR 4 L9 (fun x => #[rv K9 k9 u9 m9 v9 e9 x]) (.bool true)) (l1:¬ 300 < y.size) (hn1:L.length <= 40) (K2 C2:Int) (k2 u2 m2' v2 e2:ByteArray) (L2:List A2) (c3:ChgR 7 L (fun x => #[rv K k u m v e x,.int .i64 t,.string y]) ((K2,k2,L2,(u2,m2',v2,e2)),C2)) (c4:ChgR 8 L (fun x => #[rv K k u m v e x,.int .i64 t,.string y]) ((K2,k2,L2,(u2,m2',v2,e2)),C2)) (K3 C3:Int) (k3 u3 m3' v3 e3:ByteArray) (L3:List A2) (c5:ChgR 9 L (fun x => #[rv K k u m v e x,.int .i64 t]) ((K3,k3,L3,(u3,m3',v3,e3)),C3)) (c6:ChgR 10 L (fun x => #[rv K k u m v e x,.int .i64 t]) ((K3,k3,L3,(u3,m3',v3,e3)),C3)) (B:Bool) (c7:SmeR 12 K k u m v e L K9 k9 u9 m9 v9 e9 L9 B) (c8:SmeR 13 K k u m v e L K9 k9 u9 m9 v9 e9 L9 B) (hT:Tab2 w) :
   Calls Tryz.prog 3 #[.agg #[.int .i64 K,.string k,.slice A n q,.string u,.string m,.string v,.string e],.agg #[.int .i64 K9,.string k9,.slice A9 n9 q9,.string u9,.string m9,.string v9,.string e9],.int .i64 t,.string y] w fun x w' => x = .returned (.bool true) /\ Since w w':=by
 have t1:decide ((300:Int) < (y.size:Int)) = false:=decide_eq_false (by omega)
 have ca:=alike_t K2 k2 u2 m2' v2 e2 L2
 have cb:=alike_t K3 k3 u3 m3' v3 e3 L3
 have cc:=alike_t K k u m v e L
 have cd:=copy_mk
 have q1:(C2 == C2) = true:=beq_self_eq_true _
 have q2:(C3 == C3) = true:=beq_self_eq_true _
 have q3:(B == B) = true:=beq_self_eq_true _
 clear l1
 have c9:=awake27
 have hC:=lH (c7_box w (.int .i64 K) (.string k) (.slice A n q) (.string u) (.string m) (.string v) (.string e) 26)
 have hC9:=lH (c7_box (w.alloc (.cells #[.int .i64 K,.string k,.slice A n q,.string u,.string m,.string v,.string e] 26)) (.int .i64 K9) (.string k9) (.slice A9 n9 q9) (.string u9) (.string m9) (.string v9) (.string e9) 26)
 replace hC:=lH (c7_since hC.out ((Since.refl _).alloc (.cells #[.int .i64 K9,.string k9,.slice A9 n9 q9,.string u9,.string m9,.string v9,.string e9] 26)))
 have HS:=lH (((Since.refl w).alloc (.cells #[.int .i64 K,.string k,.slice A n q,.string u,.string m,.string v,.string e] 26)).alloc (.cells #[.int .i64 K9,.string k9,.slice A9 n9 q9,.string u9,.string m9,.string v9,.string e9] 26))
 have HX:=lH (hx.since HS.out)
 have HX9:=lH (hx9.since HS.out)
 have HT:=lH (Tab2.since hT HS.out)
 rw [show (w.alloc (.cells #[.int .i64 K,.string k,.slice A n q,.string u,.string m,.string v,.string e] 26)).heap.size = w.heap.size + 1 by simp] at hC9
 obtain ⟨m0,m1,m2,m3,m4,m5,m6⟩:=hC.out
 obtain ⟨n0,n1,n2,n3,n4,n5,n6⟩:=hC9.out
 clear hx hx9 hT
 go_enter Tryz.func3,Tryz.ntmps3
 go_wp2_with fail
 refine c0.calls0 HT.out HX.out ?_
 intro w1 hq
 replace hC:=lH (c7_since hC.out hq)
 replace hC9:=lH (c7_since hC9.out hq)
 replace HX:=lH (HX.out.since hq)
 replace HX9:=lH (HX9.out.since hq)
 replace HT:=lH (Tab2.since HT.out hq)
 replace HS:=lH (HS.out.step hq)
 clear hq
 clear m0 m1 m2 m3 m4 m5 m6 n0 n1 n2 n3 n4 n5 n6
 obtain ⟨m0,m1,m2,m3,m4,m5,m6⟩:=hC.out
 obtain ⟨n0,n1,n2,n3,n4,n5,n6⟩:=hC9.out
 go_wp2_with fail
 refine c1.calls0 HT.out HX9.out ?_
 intro w2 hq
 replace hC:=lH (c7_since hC.out hq)
 replace hC9:=lH (c7_since hC9.out hq)
 replace HX:=lH (HX.out.since hq)
 replace HX9:=lH (HX9.out.since hq)
 replace HT:=lH (Tab2.since HT.out hq)
 replace HS:=lH (HS.out.step hq)
 clear hq
 clear m0 m1 m2 m3 m4 m5 m6 n0 n1 n2 n3 n4 n5 n6
 obtain ⟨m0,m1,m2,m3,m4,m5,m6⟩:=hC.out
 obtain ⟨n0,n1,n2,n3,n4,n5,n6⟩:=hC9.out
 go_wp2_with fail
 refine (cd K k u m v e L (by omega) _ _ HX.out).mono ?_
 clear m0 m1 m2 m3 m4 m5 m6 n0 n1 n2 n3 n4 n5 n6
 rintro _ w3 ⟨ya,rfl,ho,hq⟩
 have hy:=AttsS.own ho
 clear ho
 obtain ⟨Aaa,caa,rfl,-,-⟩:=hy.slice
 replace hC:=lH (c7_since hC.out hq)
 replace hC9:=lH (c7_since hC9.out hq)
 replace HX:=lH (HX.out.since hq)
 replace HX9:=lH (HX9.out.since hq)
 replace HT:=lH (Tab2.since HT.out hq)
 replace HS:=lH (HS.out.step hq)
 skip
 clear hq
 dsimp only at hy ⊢
 obtain ⟨na,hn3⟩:∃ n,n = (L).length:=⟨_,rfl⟩
 rw [<- hn3] at hy ⊢
 clear hn3
 have hq:=(Since.refl w3).alloc (.cells #[.int .i64 K,.string k,.slice Aaa na caa,.string u,.string m,.string v,.string e] 26)
 have HYa:=lH (hy.since hq)
 have hBa:=lH (show C7 (w3.alloc (.cells #[.int .i64 K,.string k,.slice Aaa na caa,.string u,.string m,.string v,.string e] 26)) w3.heap.size (.int .i64 K) (.string k) (.slice Aaa na caa) (.string u) (.string m) (.string v) (.string e) from c7_box w3 (.int .i64 K) (.string k) (.slice Aaa na caa) (.string u) (.string m) (.string v) (.string e) 26)
 replace hC:=lH (c7_since hC.out hq)
 replace hC9:=lH (c7_since hC9.out hq)
 replace HX:=lH (HX.out.since hq)
 replace HX9:=lH (HX9.out.since hq)
 replace HT:=lH (Tab2.since HT.out hq)
 replace HS:=lH (HS.out.step hq)
 skip
 clear hq hy
 obtain ⟨m0,m1,m2,m3,m4,m5,m6⟩:=hC.out
 obtain ⟨n0,n1,n2,n3,n4,n5,n6⟩:=hC9.out
 go_wp2_with fail
 generalize w3.alloc (.cells #[.int .i64 K,.string k,.slice Aaa na caa,.string u,.string m,.string v,.string e] 26) = w4 at hC hC9 HX HX9 HT HS hBa HYa m0 m1 m2 m3 m4 m5 m6 n0 n1 n2 n3 n4 n5 n6 ⊢
 obtain ⟨ga,hg⟩:∃ g,w3.heap.size = g:=⟨_,rfl⟩
 rw [hg] at hBa ⊢
 clear hg
 clear m0 m1 m2 m3 m4 m5 m6 n0 n1 n2 n3 n4 n5 n6
 refine (c3 _ _ HT.out HX.out).mono ?_
 rintro _ w5 ⟨yb,rfl,hy,hq⟩
 obtain ⟨Abb,cbb,rfl,-,-⟩:=hy.slice
 replace hC:=lH (c7_since hC.out hq)
 replace hC9:=lH (c7_since hC9.out hq)
 replace HX:=lH (HX.out.since hq)
 replace HX9:=lH (HX9.out.since hq)
 replace HT:=lH (Tab2.since HT.out hq)
 replace HS:=lH (HS.out.step hq)
 (replace hBa:=lH (c7_since hBa.out hq); replace HYa:=lH (HYa.out.since hq))
 clear hq
 dsimp only at hy ⊢
 obtain ⟨nb,hn3⟩:∃ n,n = (L2).length:=⟨_,rfl⟩
 rw [<- hn3] at hy ⊢
 clear hn3
 have hq:=(Since.refl w5).alloc (.cells #[.int .i64 K2,.string k2,.slice Abb nb cbb,.string u2,.string m2',.string v2,.string e2] 26)
 have HYb:=lH (hy.since hq)
 have hBb:=lH (show C7 (w5.alloc (.cells #[.int .i64 K2,.string k2,.slice Abb nb cbb,.string u2,.string m2',.string v2,.string e2] 26)) w5.heap.size (.int .i64 K2) (.string k2) (.slice Abb nb cbb) (.string u2) (.string m2') (.string v2) (.string e2) from c7_box w5 (.int .i64 K2) (.string k2) (.slice Abb nb cbb) (.string u2) (.string m2') (.string v2) (.string e2) 26)
 replace hC:=lH (c7_since hC.out hq)
 replace hC9:=lH (c7_since hC9.out hq)
 replace HX:=lH (HX.out.since hq)
 replace HX9:=lH (HX9.out.since hq)
 replace HT:=lH (Tab2.since HT.out hq)
 replace HS:=lH (HS.out.step hq)
 (replace hBa:=lH (c7_since hBa.out hq); replace HYa:=lH (HYa.out.since hq))
 clear hq hy
 obtain ⟨m0,m1,m2,m3,m4,m5,m6⟩:=hC.out
 obtain ⟨n0,n1,n2,n3,n4,n5,n6⟩:=hC9.out
 go_wp2_with fail
 generalize w5.alloc (.cells #[.int .i64 K2,.string k2,.slice Abb nb cbb,.string u2,.string m2',.string v2,.string e2] 26) = w6 at hC hC9 HX HX9 HT HS hBa HYa hBb HYb m0 m1 m2 m3 m4 m5 m6 n0 n1 n2 n3 n4 n5 n6 ⊢
 obtain ⟨gb,hg⟩:∃ g,w5.heap.size = g:=⟨_,rfl⟩
 rw [hg] at hBb ⊢
 clear hg
 clear m0 m1 m2 m3 m4 m5 m6 n0 n1 n2 n3 n4 n5 n6
 refine (c4 _ _ HT.out HX.out).mono ?_
 rintro _ w7 ⟨yc,rfl,hy,hq⟩
 obtain ⟨Acc,ccc,rfl,-,-⟩:=hy.slice
 replace hC:=lH (c7_since hC.out hq)
 replace hC9:=lH (c7_since hC9.out hq)
 replace HX:=lH (HX.out.since hq)
 replace HX9:=lH (HX9.out.since hq)
 replace HT:=lH (Tab2.since HT.out hq)
 replace HS:=lH (HS.out.step hq)
 (replace hBa:=lH (c7_since hBa.out hq); replace HYa:=lH (HYa.out.since hq); replace hBb:=lH (c7_since hBb.out hq); replace HYb:=lH (HYb.out.since hq))
 clear hq
 dsimp only at hy ⊢
 obtain ⟨nc,hn3⟩:∃ n,n = (L2).length:=⟨_,rfl⟩
 rw [<- hn3] at hy ⊢
 clear hn3
 have hq:=(Since.refl w7).alloc (.cells #[.int .i64 K2,.string k2,.slice Acc nc ccc,.string u2,.string m2',.string v2,.string e2] 26)
 have HYc:=lH (hy.since hq)
 have hBc:=lH (show C7 (w7.alloc (.cells #[.int .i64 K2,.string k2,.slice Acc nc ccc,.string u2,.string m2',.string v2,.string e2] 26)) w7.heap.size (.int .i64 K2) (.string k2) (.slice Acc nc ccc) (.string u2) (.string m2') (.string v2) (.string e2) from c7_box w7 (.int .i64 K2) (.string k2) (.slice Acc nc ccc) (.string u2) (.string m2') (.string v2) (.string e2) 26)
 replace hC:=lH (c7_since hC.out hq)
 replace hC9:=lH (c7_since hC9.out hq)
 replace HX:=lH (HX.out.since hq)
 replace HX9:=lH (HX9.out.since hq)
 replace HT:=lH (Tab2.since HT.out hq)
 replace HS:=lH (HS.out.step hq)
 (replace hBa:=lH (c7_since hBa.out hq); replace HYa:=lH (HYa.out.since hq); replace hBb:=lH (c7_since hBb.out hq); replace HYb:=lH (HYb.out.since hq))
 clear hq hy
 obtain ⟨m0,m1,m2,m3,m4,m5,m6⟩:=hC.out
 obtain ⟨n0,n1,n2,n3,n4,n5,n6⟩:=hC9.out
 go_wp2_with fail
 generalize w7.alloc (.cells #[.int .i64 K2,.string k2,.slice Acc nc ccc,.string u2,.string m2',.string v2,.string e2] 26) = w8 at hC hC9 HX HX9 HT HS hBa HYa hBb HYb hBc HYc m0 m1 m2 m3 m4 m5 m6 n0 n1 n2 n3 n4 n5 n6 ⊢
 obtain ⟨gc,hg⟩:∃ g,w7.heap.size = g:=⟨_,rfl⟩
 rw [hg] at hBc ⊢
 clear hg
 clear m0 m1 m2 m3 m4 m5 m6 n0 n1 n2 n3 n4 n5 n6
 refine (c5 _ _ HT.out HX.out).mono ?_
 rintro _ w9 ⟨yd,rfl,hy,hq⟩
 obtain ⟨Add,cdd,rfl,-,-⟩:=hy.slice
 replace hC:=lH (c7_since hC.out hq)
 replace hC9:=lH (c7_since hC9.out hq)
 replace HX:=lH (HX.out.since hq)
 replace HX9:=lH (HX9.out.since hq)
 replace HT:=lH (Tab2.since HT.out hq)
 replace HS:=lH (HS.out.step hq)
 (replace hBa:=lH (c7_since hBa.out hq); replace HYa:=lH (HYa.out.since hq); replace hBb:=lH (c7_since hBb.out hq); replace HYb:=lH (HYb.out.since hq); replace hBc:=lH (c7_since hBc.out hq); replace HYc:=lH (HYc.out.since hq))
 clear hq
 dsimp only at hy ⊢
 obtain ⟨nd,hn3⟩:∃ n,n = (L3).length:=⟨_,rfl⟩
 rw [<- hn3] at hy ⊢
 clear hn3
 have hq:=(Since.refl w9).alloc (.cells #[.int .i64 K3,.string k3,.slice Add nd cdd,.string u3,.string m3',.string v3,.string e3] 26)
 have HYd:=lH (hy.since hq)
 have hBd:=lH (show C7 (w9.alloc (.cells #[.int .i64 K3,.string k3,.slice Add nd cdd,.string u3,.string m3',.string v3,.string e3] 26)) w9.heap.size (.int .i64 K3) (.string k3) (.slice Add nd cdd) (.string u3) (.string m3') (.string v3) (.string e3) from c7_box w9 (.int .i64 K3) (.string k3) (.slice Add nd cdd) (.string u3) (.string m3') (.string v3) (.string e3) 26)
 replace hC:=lH (c7_since hC.out hq)
 replace hC9:=lH (c7_since hC9.out hq)
 replace HX:=lH (HX.out.since hq)
 replace HX9:=lH (HX9.out.since hq)
 replace HT:=lH (Tab2.since HT.out hq)
 replace HS:=lH (HS.out.step hq)
 (replace hBa:=lH (c7_since hBa.out hq); replace HYa:=lH (HYa.out.since hq); replace hBb:=lH (c7_since hBb.out hq); replace HYb:=lH (HYb.out.since hq); replace hBc:=lH (c7_since hBc.out hq); replace HYc:=lH (HYc.out.since hq))
 clear hq hy
 obtain ⟨m0,m1,m2,m3,m4,m5,m6⟩:=hC.out
 obtain ⟨n0,n1,n2,n3,n4,n5,n6⟩:=hC9.out
 go_wp2_with fail
 generalize w9.alloc (.cells #[.int .i64 K3,.string k3,.slice Add nd cdd,.string u3,.string m3',.string v3,.string e3] 26) = w10 at hC hC9 HX HX9 HT HS hBa HYa hBb HYb hBc HYc hBd HYd m0 m1 m2 m3 m4 m5 m6 n0 n1 n2 n3 n4 n5 n6 ⊢
 obtain ⟨gd,hg⟩:∃ g,w9.heap.size = g:=⟨_,rfl⟩
 rw [hg] at hBd ⊢
 clear hg
 clear m0 m1 m2 m3 m4 m5 m6 n0 n1 n2 n3 n4 n5 n6
 refine (c6 _ _ HT.out HX.out).mono ?_
 rintro _ w11 ⟨ye,rfl,hy,hq⟩
 obtain ⟨Aee,cee,rfl,-,-⟩:=hy.slice
 replace hC:=lH (c7_since hC.out hq)
 replace hC9:=lH (c7_since hC9.out hq)
 replace HX:=lH (HX.out.since hq)
 replace HX9:=lH (HX9.out.since hq)
 replace HT:=lH (Tab2.since HT.out hq)
 replace HS:=lH (HS.out.step hq)
 (replace hBa:=lH (c7_since hBa.out hq); replace HYa:=lH (HYa.out.since hq); replace hBb:=lH (c7_since hBb.out hq); replace HYb:=lH (HYb.out.since hq); replace hBc:=lH (c7_since hBc.out hq); replace HYc:=lH (HYc.out.since hq); replace hBd:=lH (c7_since hBd.out hq); replace HYd:=lH (HYd.out.since hq))
 clear hq
 dsimp only at hy ⊢
 obtain ⟨ne,hn3⟩:∃ n,n = (L3).length:=⟨_,rfl⟩
 rw [<- hn3] at hy ⊢
 clear hn3
 have hq:=(Since.refl w11).alloc (.cells #[.int .i64 K3,.string k3,.slice Aee ne cee,.string u3,.string m3',.string v3,.string e3] 26)
 have HYe:=lH (hy.since hq)
 have hBe:=lH (show C7 (w11.alloc (.cells #[.int .i64 K3,.string k3,.slice Aee ne cee,.string u3,.string m3',.string v3,.string e3] 26)) w11.heap.size (.int .i64 K3) (.string k3) (.slice Aee ne cee) (.string u3) (.string m3') (.string v3) (.string e3) from c7_box w11 (.int .i64 K3) (.string k3) (.slice Aee ne cee) (.string u3) (.string m3') (.string v3) (.string e3) 26)
 replace hC:=lH (c7_since hC.out hq)
 replace hC9:=lH (c7_since hC9.out hq)
 replace HX:=lH (HX.out.since hq)
 replace HX9:=lH (HX9.out.since hq)
 replace HT:=lH (Tab2.since HT.out hq)
 replace HS:=lH (HS.out.step hq)
 (replace hBa:=lH (c7_since hBa.out hq); replace HYa:=lH (HYa.out.since hq); replace hBb:=lH (c7_since hBb.out hq); replace HYb:=lH (HYb.out.since hq); replace hBc:=lH (c7_since hBc.out hq); replace HYc:=lH (HYc.out.since hq); replace hBd:=lH (c7_since hBd.out hq); replace HYd:=lH (HYd.out.since hq))
 clear hq hy
 obtain ⟨m0,m1,m2,m3,m4,m5,m6⟩:=hC.out
 obtain ⟨n0,n1,n2,n3,n4,n5,n6⟩:=hC9.out
 go_upto_region 8 with fail
 generalize w11.alloc (.cells #[.int .i64 K3,.string k3,.slice Aee ne cee,.string u3,.string m3',.string v3,.string e3] 26) = w12 at hC hC9 HX HX9 HT HS hBa HYa hBb HYb hBc HYc hBd HYd hBe HYe m0 m1 m2 m3 m4 m5 m6 n0 n1 n2 n3 n4 n5 n6 ⊢
 obtain ⟨ge,hg⟩:∃ g,w11.heap.size = g:=⟨_,rfl⟩
 rw [hg] at hBe ⊢
 clear hg
 clear m0 m1 m2 m3 m4 m5 m6 n0 n1 n2 n3 n4 n5 n6
 have hHeld:=lH (show C7 w12 w.heap.size (.int .i64 K) (.string k) (.slice A n q) (.string u) (.string m) (.string v) (.string e) /\ C7 w12 (w.heap.size + 1) (.int .i64 K9) (.string k9) (.slice A9 n9 q9) (.string u9) (.string m9) (.string v9) (.string e9) /\ C7 w12 ga (.int .i64 K) (.string k) (.slice Aaa na caa) (.string u) (.string m) (.string v) (.string e) /\ C7 w12 gb (.int .i64 K2) (.string k2) (.slice Abb nb cbb) (.string u2) (.string m2') (.string v2) (.string e2) /\ C7 w12 gc (.int .i64 K2) (.string k2) (.slice Acc nc ccc) (.string u2) (.string m2') (.string v2) (.string e2) /\ C7 w12 gd (.int .i64 K3) (.string k3) (.slice Add nd cdd) (.string u3) (.string m3') (.string v3) (.string e3) /\ C7 w12 ge (.int .i64 K3) (.string k3) (.slice Aee ne cee) (.string u3) (.string m3') (.string v3) (.string e3) from ⟨hC.out,hC9.out,hBa.out,hBb.out,hBc.out,hBd.out,hBe.out⟩)
 clear hBa hBb hBc hBd hBe
 have hq:=Since.drew (Since.refl w12)
 replace hC:=lH (c7_since hC.out hq)
 replace hC9:=lH (c7_since hC9.out hq)
 replace HX:=lH (HX.out.since hq)
 replace HX9:=lH (HX9.out.since hq)
 replace HT:=lH (Tab2.since HT.out hq)
 replace HS:=lH (HS.out.step hq)
 replace HYa:=lH (HYa.out.since hq)
 replace HYb:=lH (HYb.out.since hq)
 replace HYc:=lH (HYc.out.since hq)
 replace HYd:=lH (HYd.out.since hq)
 replace HYe:=lH (HYe.out.since hq)
 replace hHeld:=lH (And.intro (c7_since hHeld.out.1 hq) (And.intro (c7_since hHeld.out.2.1 hq) (And.intro (c7_since hHeld.out.2.2.1 hq) (And.intro (c7_since hHeld.out.2.2.2.1 hq) (And.intro (c7_since hHeld.out.2.2.2.2.1 hq) (And.intro (c7_since hHeld.out.2.2.2.2.2.1 hq) (c7_since hHeld.out.2.2.2.2.2.2 hq)))))))
 refine RegW.start (fun W' => Hid (C7 W' w.heap.size (.int .i64 K) (.string k) (.slice A n q) (.string u) (.string m) (.string v) (.string e) /\ C7 W' (w.heap.size + 1) (.int .i64 K9) (.string k9) (.slice A9 n9 q9) (.string u9) (.string m9) (.string v9) (.string e9) /\ C7 W' ga (.int .i64 K) (.string k) (.slice Aaa na caa) (.string u) (.string m) (.string v) (.string e) /\ C7 W' gb (.int .i64 K2) (.string k2) (.slice Abb nb cbb) (.string u2) (.string m2') (.string v2) (.string e2) /\ C7 W' gc (.int .i64 K2) (.string k2) (.slice Acc nc ccc) (.string u2) (.string m2') (.string v2) (.string e2) /\ C7 W' gd (.int .i64 K3) (.string k3) (.slice Add nd cdd) (.string u3) (.string m3') (.string v3) (.string e3) /\ C7 W' ge (.int .i64 K3) (.string k3) (.slice Aee ne cee) (.string u3) (.string m3') (.string v3) (.string e3))) 35 (by kernel_rfl) hHeld (fun _ => ?_)
 generalize w12.drew = wa at hC hC9 HX HX9 HT HS HYa HYb HYc HYd HYe hHeld ⊢
 clear hq
 refine RegW.tk 0 rfl ?_ (hy:=by intro w hSw; obtain ⟨h0,h1,h2,h3,h4,h5,h6⟩:=hSw.out.2.2.2.1; go_simp; try with_reducible rfl)
 try simp only [RegW.p]
 refine RegW.tk 1 rfl ?_ (hy:=by intro w hSw; obtain ⟨h0,h1,h2,h3,h4,h5,h6⟩:=hSw.out.2.2.2.2.1; go_simp; try with_reducible rfl)
 try simp only [RegW.p]
 refine RegW.only (i:=2) rfl (by kernel_rfl) (fun Kz hK => ?_)
 go_simp
 refine ca.calls0 HYb.out HYc.out ?_
 intro wb hq
 replace hC:=lH (c7_since hC.out hq)
 replace hC9:=lH (c7_since hC9.out hq)
 replace HX:=lH (HX.out.since hq)
 replace HX9:=lH (HX9.out.since hq)
 replace HT:=lH (Tab2.since HT.out hq)
 replace HS:=lH (HS.out.step hq)
 replace HYa:=lH (HYa.out.since hq)
 replace HYb:=lH (HYb.out.since hq)
 replace HYc:=lH (HYc.out.since hq)
 replace HYd:=lH (HYd.out.since hq)
 replace HYe:=lH (HYe.out.since hq)
 replace hHeld:=lH (And.intro (c7_since hHeld.out.1 hq) (And.intro (c7_since hHeld.out.2.1 hq) (And.intro (c7_since hHeld.out.2.2.1 hq) (And.intro (c7_since hHeld.out.2.2.2.1 hq) (And.intro (c7_since hHeld.out.2.2.2.2.1 hq) (And.intro (c7_since hHeld.out.2.2.2.2.2.1 hq) (c7_since hHeld.out.2.2.2.2.2.2 hq)))))))
 clear hq
 refine hK.out _ _ hHeld (fun _ => ?_)
 clear hK Kz
 try simp only [RegW.p]
 refine RegW.tk 3 rfl ?_
 try simp only [RegW.p]
 refine RegW.tk 4 rfl ?_
 try simp only [RegW.p]
 refine RegW.tk 5 rfl ?_
 try simp only [RegW.p]
 refine RegW.tk 6 rfl ?_
 try simp only [RegW.p]
 refine RegW.tk 7 rfl ?_
 try simp only [RegW.p]
 refine RegW.tk 8 rfl ?_
 try simp only [RegW.p]
 refine RegW.tk 9 rfl ?_ (hy:=by intro w hSw; obtain ⟨h0,h1,h2,h3,h4,h5,h6⟩:=hSw.out.2.2.2.2.2.1; go_simp; try with_reducible rfl)
 try simp only [RegW.p]
 refine RegW.tk 10 rfl ?_ (hy:=by intro w hSw; obtain ⟨h0,h1,h2,h3,h4,h5,h6⟩:=hSw.out.2.2.2.2.2.2; go_simp; try with_reducible rfl)
 try simp only [RegW.p]
 refine RegW.only (i:=11) rfl (by kernel_rfl) (fun Kz hK => ?_)
 go_simp
 refine cb.calls0 HYd.out HYe.out ?_
 intro wb hq
 replace hC:=lH (c7_since hC.out hq)
 replace hC9:=lH (c7_since hC9.out hq)
 replace HX:=lH (HX.out.since hq)
 replace HX9:=lH (HX9.out.since hq)
 replace HT:=lH (Tab2.since HT.out hq)
 replace HS:=lH (HS.out.step hq)
 replace HYa:=lH (HYa.out.since hq)
 replace HYb:=lH (HYb.out.since hq)
 replace HYc:=lH (HYc.out.since hq)
 replace HYd:=lH (HYd.out.since hq)
 replace HYe:=lH (HYe.out.since hq)
 replace hHeld:=lH (And.intro (c7_since hHeld.out.1 hq) (And.intro (c7_since hHeld.out.2.1 hq) (And.intro (c7_since hHeld.out.2.2.1 hq) (And.intro (c7_since hHeld.out.2.2.2.1 hq) (And.intro (c7_since hHeld.out.2.2.2.2.1 hq) (And.intro (c7_since hHeld.out.2.2.2.2.2.1 hq) (c7_since hHeld.out.2.2.2.2.2.2 hq)))))))
 clear hq
 refine hK.out _ _ hHeld (fun _ => ?_)
 clear hK Kz
 try simp only [RegW.p]
 refine RegW.tk 12 rfl ?_
 try simp only [RegW.p]
 refine RegW.tk 13 rfl ?_
 try simp only [RegW.p]
 refine RegW.tk 14 rfl ?_
 try simp only [RegW.p]
 refine RegW.tk 15 rfl ?_
 try simp only [RegW.p]
 refine RegW.tk 16 rfl ?_
 try simp only [RegW.p]
 refine RegW.tk 17 rfl ?_
 try simp only [RegW.p]
 refine RegW.tk 18 rfl ?_
 try simp only [RegW.p]
 refine RegW.tk 19 rfl ?_ (hy:=by intro w hSw; obtain ⟨h0,h1,h2,h3,h4,h5,h6⟩:=hSw.out.1; go_simp; try with_reducible rfl)
 try simp only [RegW.p]
 refine RegW.tk 20 rfl ?_ (hy:=by intro w hSw; obtain ⟨h0,h1,h2,h3,h4,h5,h6⟩:=hSw.out.2.1; go_simp; try with_reducible rfl)
 try simp only [RegW.p]
 refine RegW.tk 22 rfl ?_ (hy:=by intro w hSw; obtain ⟨h0,h1,h2,h3,h4,h5,h6⟩:=hSw.out.1; go_simp; try with_reducible rfl)
 try simp only [RegW.p]
 refine RegW.tk 23 rfl ?_ (hy:=by intro w hSw; obtain ⟨h0,h1,h2,h3,h4,h5,h6⟩:=hSw.out.2.1; go_simp; try with_reducible rfl)
 try simp only [RegW.p]
 refine RegW.only (i:=21) rfl (by kernel_rfl) (fun Kz hK => ?_)
 go_simp
 refine c7.calls0 HX.out HX9.out ?_
 intro wb hq
 replace hC:=lH (c7_since hC.out hq)
 replace hC9:=lH (c7_since hC9.out hq)
 replace HX:=lH (HX.out.since hq)
 replace HX9:=lH (HX9.out.since hq)
 replace HT:=lH (Tab2.since HT.out hq)
 replace HS:=lH (HS.out.step hq)
 replace HYa:=lH (HYa.out.since hq)
 replace HYb:=lH (HYb.out.since hq)
 replace HYc:=lH (HYc.out.since hq)
 replace HYd:=lH (HYd.out.since hq)
 replace HYe:=lH (HYe.out.since hq)
 replace hHeld:=lH (And.intro (c7_since hHeld.out.1 hq) (And.intro (c7_since hHeld.out.2.1 hq) (And.intro (c7_since hHeld.out.2.2.1 hq) (And.intro (c7_since hHeld.out.2.2.2.1 hq) (And.intro (c7_since hHeld.out.2.2.2.2.1 hq) (And.intro (c7_since hHeld.out.2.2.2.2.2.1 hq) (c7_since hHeld.out.2.2.2.2.2.2 hq)))))))
 clear hq
 refine hK.out _ _ hHeld (fun _ => ?_)
 clear hK Kz
 try simp only [RegW.p]
 refine RegW.only (i:=24) rfl (by kernel_rfl) (fun Kz hK => ?_)
 go_simp
 refine c8.calls0 HX.out HX9.out ?_
 intro wb hq
 replace hC:=lH (c7_since hC.out hq)
 replace hC9:=lH (c7_since hC9.out hq)
 replace HX:=lH (HX.out.since hq)
 replace HX9:=lH (HX9.out.since hq)
 replace HT:=lH (Tab2.since HT.out hq)
 replace HS:=lH (HS.out.step hq)
 replace HYa:=lH (HYa.out.since hq)
 replace HYb:=lH (HYb.out.since hq)
 replace HYc:=lH (HYc.out.since hq)
 replace HYd:=lH (HYd.out.since hq)
 replace HYe:=lH (HYe.out.since hq)
 replace hHeld:=lH (And.intro (c7_since hHeld.out.1 hq) (And.intro (c7_since hHeld.out.2.1 hq) (And.intro (c7_since hHeld.out.2.2.1 hq) (And.intro (c7_since hHeld.out.2.2.2.1 hq) (And.intro (c7_since hHeld.out.2.2.2.2.1 hq) (And.intro (c7_since hHeld.out.2.2.2.2.2.1 hq) (c7_since hHeld.out.2.2.2.2.2.2 hq)))))))
 clear hq
 refine hK.out _ _ hHeld (fun _ => ?_)
 clear hK Kz
 try simp only [RegW.p]
 refine RegW.tk 25 rfl ?_
 try simp only [RegW.p]
 refine RegW.tk 26 rfl ?_
 try simp only [RegW.p]
 refine RegW.tk 27 rfl ?_
 try simp only [RegW.p]
 refine RegW.tk 28 rfl ?_ (hy:=by intro w hSw; obtain ⟨h0,h1,h2,h3,h4,h5,h6⟩:=hSw.out.2.2.1; go_simp; try with_reducible rfl)
 try simp only [RegW.p]
 refine RegW.tk 29 rfl ?_ (hy:=by intro w hSw; obtain ⟨h0,h1,h2,h3,h4,h5,h6⟩:=hSw.out.1; go_simp; try with_reducible rfl)
 try simp only [RegW.p]
 refine RegW.only (i:=30) rfl (by kernel_rfl) (fun Kz hK => ?_)
 go_simp
 refine cc.calls0 HYa.out HX.out ?_
 intro wb hq
 replace hC:=lH (c7_since hC.out hq)
 replace hC9:=lH (c7_since hC9.out hq)
 replace HX:=lH (HX.out.since hq)
 replace HX9:=lH (HX9.out.since hq)
 replace HT:=lH (Tab2.since HT.out hq)
 replace HS:=lH (HS.out.step hq)
 replace HYa:=lH (HYa.out.since hq)
 replace HYb:=lH (HYb.out.since hq)
 replace HYc:=lH (HYc.out.since hq)
 replace HYd:=lH (HYd.out.since hq)
 replace HYe:=lH (HYe.out.since hq)
 replace hHeld:=lH (And.intro (c7_since hHeld.out.1 hq) (And.intro (c7_since hHeld.out.2.1 hq) (And.intro (c7_since hHeld.out.2.2.1 hq) (And.intro (c7_since hHeld.out.2.2.2.1 hq) (And.intro (c7_since hHeld.out.2.2.2.2.1 hq) (And.intro (c7_since hHeld.out.2.2.2.2.2.1 hq) (c7_since hHeld.out.2.2.2.2.2.2 hq)))))))
 clear hq
 refine hK.out _ _ hHeld (fun _ => ?_)
 clear hK Kz
 try simp only [RegW.p]
 refine RegW.tk 31 rfl ?_
 try simp only [RegW.p]
 refine RegW.tk 32 rfl ?_
 try simp only [RegW.p]
 refine RegW.only (i:=33) rfl (by kernel_rfl) (fun Kz hK => ?_)
 go_simp
 refine c9.calls0 HT.out ?_
 intro wb hq
 replace hC:=lH (c7_since hC.out hq)
 replace hC9:=lH (c7_since hC9.out hq)
 replace HX:=lH (HX.out.since hq)
 replace HX9:=lH (HX9.out.since hq)
 replace HT:=lH (Tab2.since HT.out hq)
 replace HS:=lH (HS.out.step hq)
 replace HYa:=lH (HYa.out.since hq)
 replace HYb:=lH (HYb.out.since hq)
 replace HYc:=lH (HYc.out.since hq)
 replace HYd:=lH (HYd.out.since hq)
 replace HYe:=lH (HYe.out.since hq)
 replace hHeld:=lH (And.intro (c7_since hHeld.out.1 hq) (And.intro (c7_since hHeld.out.2.1 hq) (And.intro (c7_since hHeld.out.2.2.1 hq) (And.intro (c7_since hHeld.out.2.2.2.1 hq) (And.intro (c7_since hHeld.out.2.2.2.2.1 hq) (And.intro (c7_since hHeld.out.2.2.2.2.2.1 hq) (c7_since hHeld.out.2.2.2.2.2.2 hq)))))))
 clear hq
 refine hK.out _ _ hHeld (fun _ => ?_)
 clear hK Kz
 try simp only [RegW.p]
 refine RegW.tk 34 rfl ?_
 try simp only [RegW.p]
 refine RegW.last rfl (by kernel_rfl) (by kernel_rfl) ?_
 clear hHeld
 go_wp2_with fail
 go_ret
 exact ⟨rfl,HS.out⟩
theorem walk (w:World) (K:Int) (k:ByteArray) (A:Option Addr) (n q:Nat) (L:List A2) (u m v e:ByteArray) (K9:Int) (k9:ByteArray) (A9:Option Addr) (n9 q9:Nat) (L9:List A2) (u9 m9 v9 e9:ByteArray) (t:Int) (y:ByteArray)
   (_f0:(Lit.int .i64 K).wf = true) (_f1:k.size <= maxLen) (hx:AttsS w (.slice A n q) L) (_f2:n = L.length) (_f3:∀ p ∈ L,(Lit.int .i64 p.1).wf = true /\ p.2.size <= maxLen) (_f4:u.size <= maxLen) (_f5:m.size <= maxLen) (_f6:v.size <= maxLen) (_f7:e.size <= maxLen)
   (_g0:(Lit.int .i64 K9).wf = true) (_g1:k9.size <= maxLen) (hx9:AttsS w (.slice A9 n9 q9) L9) (_g2:n9 = L9.length) (_g3:∀ p ∈ L9,(Lit.int .i64 p.1).wf = true /\ p.2.size <= maxLen) (_g4:u9.size <= maxLen) (_g5:m9.size <= maxLen) (_g6:v9.size <= maxLen) (_g7:e9.size <= maxLen)
   (_h0:(Lit.int .i64 t).wf = true) (_h1:y.size <= maxLen) (hT:Tab2 w) :
   Calls Tryz.prog 3 #[.agg #[.int .i64 K,.string k,.slice A n q,.string u,.string m,.string v,.string e],.agg #[.int .i64 K9,.string k9,.slice A9 n9 q9,.string u9,.string m9,.string v9,.string e9],.int .i64 t,.string y] w fun x w' => x = .returned (.bool true) /\ Below w.heap.size w w':=by
 have c0:=plain_rec K k u m v e L
 have c1:=plain_rec K9 k9 u9 m9 v9 e9 L9
 cases hb:plainB k u m v e L with
 | false => rw [hb] at c0; exact big_1 w K k A n q L u m v e K9 k9 A9 n9 q9 L9 u9 m9 v9 e9 t y hx hx9 c0 hT
 | true =>
   rw [hb] at c0
   cases hb9:plainB k9 u9 m9 v9 e9 L9 with
   | false => rw [hb9] at c1; exact big_2 w K k A n q L u m v e K9 k9 A9 n9 q9 L9 u9 m9 v9 e9 t y hx hx9 c0 c1 hT
   | true =>
     rw [hb9] at c1
     by_cases l1:300 < y.size
     · exact big_3 w K k A n q L u m v e K9 k9 A9 n9 q9 L9 u9 m9 v9 e9 t y hx hx9 c0 c1 l1 hT
     · obtain ⟨h1,h2,h3⟩:=plain_small hb
       obtain ⟨h4,h5⟩:=fewB_spec _ _ h2
       exact core w K k A n q L u m v e K9 k9 A9 n9 q9 L9 u9 m9 v9 e9 t y hx hx9 c0 c1 l1 h4 _ _ _ _ _ _ _ _ (with_k K k u m v e L (by omega) (by omega) t y) (rwith_k K k u m v e L (by omega) (by omega) t y) _ _ _ _ _ _ _ _ (without_k K k u m v e L (by omega) (by omega) t) (rwithout_k K k u m v e L (by omega) (by omega) t) _ (same_k K k u m v e L K9 k9 u9 m9 v9 e9 L9) (rsame_k K k u m v e L K9 k9 u9 m9 v9 e9 L9) hT
theorem own:ownKnob Tryz.prog.godebug = none:=by kernel_rfl
theorem laidOut:laidOutB Tryz.prog = true:=by kernel_rfl
def laidL : List (String × DataW Unit) := [("unicode/utf8.acceptRanges", Rows.laid_unicode_utf8_acceptRanges), ("claviger/curve.lines", Rows.laid_claviger_curve_lines), ("claviger/kind.lines", Rows.laid_claviger_kind_lines), ("unicode/utf8.first", Rows.laid_unicode_utf8_first)]
theorem lifted (os:Os) (started:os.Started) (H:Type) (enc:TypeId × Value -> H) :
   ReturnsInHanded {} Tryz.checked os 3 .any (fun w args => (Rows.recordChangesSpec.pre enc Tryz.prog Tryz.f3 [] false w args /\ laidMetH Tryz.prog laidL w) /\ sizedMet enc Tryz.prog Tryz.f3 (OpenSpec.ofChange Rows.recordChangesSpec) false w args)
     (Rows.recordChangesSpec.post enc Tryz.prog Tryz.f3 false true false false):=by
 refine returnsInHanded_of_change_and (C:=Tryz.checked) (X:=fun w _ => laidMetH Tryz.prog laidL w) (fun _ _ _ hh h => h.of_heap hh) own started (by kernel_rfl) Tryz.func3
   (ChangeSpec.witness_shaped (enc:=enc) (C:=Tryz.checked) (os:=os) (X:=fun w _ => laidMetH Tryz.prog laidL w) false (World.laidAll Tryz.prog os laidL) #[.agg #[.int .i64 0,.string ⟨#[]⟩,.slice none 0 0,.string ⟨#[]⟩,.string ⟨#[]⟩,.string ⟨#[]⟩,.string ⟨#[]⟩],.agg #[.int .i64 0,.string ⟨#[]⟩,.slice none 0 0,.string ⟨#[]⟩,.string ⟨#[]⟩,.string ⟨#[]⟩,.string ⟨#[]⟩],.int .i64 0,.string ⟨#[]⟩] 8 (World.laidAll_os _ _ _) (World.shaped_of_ZipB (by kernel_rfl) (by kernel_rfl)) (by kernel_rfl) (by kernel_rfl) (by kernel_rfl) (by rw [MakeChecks.laidMetH_plain _ _ _ (by kernel_rfl)]; exact laidMet_laidAll _ (by kernel_rfl) (by kernel_rfl))) ?_
 intro W base args ds gs before hval0 hW _ _ hL _
 have hval:∀ (j:Nat) t v,Tryz.f3.params[j]? = some t -> args[j]? = some v -> Value.okWide Tryz.prog W .any base t v:=hval0
 have hW':=hW
 obtain ⟨p,q,hA0,hV,rfl,hfz,hnd⟩:=hW
 have hA:DataW.TrodAll enc Tryz.prog W 0 (fun _ => true) true Tryz.f3.params.toList args.toList ds p:=hA0
 rw [Tryz.params3] at hA hval
 obtain ⟨v0,vs0,d0,ds0,p0,q0,hargs,rfl,rfl,h0,r0⟩:=trodAll_cons hA
 obtain ⟨v1,vs1,d1,ds1,p1,q1,rfl,rfl,rfl,h1,r1⟩:=trodAll_cons r0
 obtain ⟨v2,vs2,d2,ds2,p2,q2,rfl,rfl,rfl,h2,r2⟩:=trodAll_cons r1
 obtain ⟨v3,vs3,d3,ds3,p3,q3,rfl,rfl,rfl,h3,r3⟩:=trodAll_cons r2
 obtain ⟨rfl,rfl,rfl⟩:=trodAll_nil r3
 obtain rfl:args = #[v0,v1,v2,v3]:=by cases args; simp_all
 obtain ⟨rfl,rfl⟩:=trodVars_none hV
 have h0k:=h0
 have hlt0:∀ x ∈ p0,x.block < W.heap.size:=fun x hx => by simpa using hW'.lt x (by simp [hx])
 obtain ⟨a0_K,a0_k,a0_A,a0_n,a0_q,a0_L,a0_u,a0_m,a0_v,a0_e,rfl,f0_0,f0_1,f0_2,f0_3,f0_4,f0_5,f0_6,f0_7,f0_8⟩:=Rec.record_arg (hval 0 26 v0 rfl rfl) h0 hlt0
 have h1k:=h1
 have hlt1:∀ x ∈ p1,x.block < W.heap.size:=fun x hx => by simpa using hW'.lt x (by simp [hx])
 obtain ⟨a1_K9,a1_k9,a1_A9,a1_n9,a1_q9,a1_L9,a1_u9,a1_m9,a1_v9,a1_e9,rfl,f1_0,f1_1,f1_2,f1_3,f1_4,f1_5,f1_6,f1_7,f1_8⟩:=Rec.record_arg (hval 1 26 v1 rfl rfl) h1 hlt1
 obtain ⟨a2,rfl,rfl,rfl,w2⟩:=open_int Tryz.underlying3 (hval 2 3 v2 rfl rfl) h2
 obtain ⟨a3,rfl,rfl,rfl,w3⟩:=Go.ChangeMaps.open_string Tryz.underlying9 (hval 3 9 v3 rfl rfl) h3
 clear hA0 hval0
 simp only [List.append_nil] at hW'
 refine (walk W a0_K a0_k a0_A a0_n a0_q a0_L a0_u a0_m a0_v a0_e a1_K9 a1_k9 a1_A9 a1_n9 a1_q9 a1_L9 a1_u9 a1_m9 a1_v9 a1_e9 a2 a3 f0_0 f0_1 f0_2 f0_3 f0_4 f0_5 f0_6 f0_7 f0_8 f1_0 f1_1 f1_2 f1_3 f1_4 f1_5 f1_6 f1_7 f1_8 w2 w3 (Kind.tabs4_of hL)).mono fun e W' ⟨he,hg⟩ => ?_
 subst he
 exact ⟨_,rfl,_,_,_,_,_,[],hW',(trodAll_cons_mk (shut_bool Tryz.underlying4 _) trodAll_mk0),(trodAll_cons_mk (Below.trod laidOut (by kernel_rfl) (of_decide_eq_true (by kernel_rfl)) h0k hg hlt0) (trodAll_cons_mk (Below.trod laidOut (by kernel_rfl) (of_decide_eq_true (by kernel_rfl)) h1k hg hlt1) (trodAll_cons_mk (shut_int Tryz.underlying3 w2) (trodAll_cons_mk (Go.ChangeMaps.shut_string Tryz.underlying9 w3) trodAll_mk0)))),rfl,hg.frame _,fun h => by cases h⟩
theorem over:Rows.recordChangesRow.holds Tryz.pinned (OpenSpec.ofChange Rows.recordChangesSpec) :=
 OpenClaim.holds_of_wide 3 Tryz.f3 rfl rfl rfl rfl rfl rfl rfl ⟨rfl,rfl,rfl,rfl,rfl⟩ rfl rfl rfl rfl rfl (by kernel_rfl) Tryz.func3 (by kernel_rfl)
   (of_decide_eq_true (by kernel_rfl)) (by unfold Func.isWrapper; first | (rw [if_pos (by decide +kernel)]; kernel_rfl) | (rw [if_neg (by decide +kernel)]; exact ⟨rfl,rfl⟩))
   (fun os started H enc _ => lifted os started H enc)
theorem proved:Rows.RecordChangesCardSaid :=
 Claim7.holds_tied_plain_at .later [] [.data,.data,.data,.pinned] true Rows.recordChangesCard.stood.harness false
   over (fun _ h => by cases h) (by kernel_rfl) (fun _ h => by cases h) recordChanges_row_tie rfl ⟨rfl,rfl⟩ (by kernel_rfl) rfl
   (fun f fn hf hfn => by
     obtain rfl : f = 3 := Option.some.inj ((show Tryz.prog.funcNamed "claviger/clavigerlaw27.RecordChanges" = some 3 by kernel_rfl).symm.trans hf) |>.symm
     obtain rfl:fn = Tryz.f3:=(Option.some.inj (Tryz.func3.symm.trans hfn)).symm
     exact ⟨by kernel_rfl,fun j t ht => by
       rw [Tryz.params3] at ht
       have hm:t ∈ [26,26,3,9]:=by simpa using Array.mem_of_getElem? ht
       have hall:([26,26,3,9].all fun u => !Tryz.prog.wantsStandIn u) = true:=by kernel_rfl
       exact (show Tryz.prog.wantsStandIn t = false by simpa using List.all_eq_true.1 hall t hm)⟩)
   (by kernel_rfl)
end Go.Proofs.YtfnmakelbijmkaaGreatDoor.recordChanges
