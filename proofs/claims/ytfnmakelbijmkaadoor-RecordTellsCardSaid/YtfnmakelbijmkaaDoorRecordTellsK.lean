/- The law RecordTells: any record may be, has the words, and any words are the record, that the document says; no conditions. -/
import Derived.Test.YtfnmakelbijmkaaDoorRows
import Derived.WalkKit
import Derived.ProofKit
import Derived.OpenShut
import Derived.Lib.Hide
import Derived.Test.YtfnmakelbijmkaaDoorRt52
import Derived.Test.YtfnmakelbijmkaaDoorRt53
import Derived.Test.YtfnmakelbijmkaaDoorCards
import Derived.Test.YtfnmakelbijmkaaDoorTie
import Derived.LaidMore
import Derived.SevenTiedAt
import Derived.Stop.Joined
import Derived.Lay
set_option maxRecDepth 100000
namespace Go.Proofs.YtfnmakelbijmkaaDoor.recordTells
open Go.ChangeShapes Go.WideShapes Go.ChangeAt Go.RowKit
open Att Rec Rcd Kind Atf Rw Flt Tlv
set_option maxHeartbeats 4000000 in
theorem big_1 (w:World) (K:Int) (k:ByteArray) (A:Option Addr) (n q:Nat) (L:List A2) (u m v e y:ByteArray) (hx:AttsS w (.slice A n q) L) (c0:RdR 5 L (fun x => #[rv K k u m v e x]) (.bool false)) (hT:Tab2 w) :
   Calls Tryd.prog 3 #[.agg #[.int .i64 K,.string k,.slice A n q,.string u,.string m,.string v,.string e],.string y] w fun x w' => x = .returned (.bool true) /\ Since w w':=by
 skip
 have HX9:=lH hx
 have hp:=lH (hb_new w Tab2 hT #[.int .i64 K,.string k,.slice A n q,.string u,.string m,.string v,.string e] 26)
 have HX:=lH (hx.since hp.out.since)
 have HP0:=hp
 have HS:=lH (Since.refl (w.alloc (.cells #[.int .i64 K,.string k,.slice A n q,.string u,.string m,.string v,.string e] 26)))
 obtain ⟨_,m0,m1,m2,m3,m4,m5,m6⟩:=hb7 hp
 have c9:=awake27
 clear hx hT
 go_enter Tryd.func3,Tryd.ntmps3
 go_wp2_with fail
 clear m0 m1 m2 m3 m4 m5 m6
 refine (c0.calls0 hp.out.tabs HX.out) ?_
 intro w1 h1
 replace hp:=lH (hp.out.step (Up.up h1))
 replace HX:=lH (HX.out.since (Up.up h1))
 replace HS:=lH (HS.out.step (Up.up h1))
 clear h1
 go_wp2_with fail
 refine (c9.calls0 hp.out.tabs) ?_
 intro w8 h8
 replace HS:=lH (HS.out.step (Up.up h8))
 clear h8
 go_wp2_with fail
 go_ret
 exact ⟨rfl,HP0.out.since.step HS.out⟩
set_option maxHeartbeats 4000000 in
theorem big_2 (w:World) (K:Int) (k:ByteArray) (A:Option Addr) (n q:Nat) (L:List A2) (u m v e y:ByteArray) (hx:AttsS w (.slice A n q) L) (l1:1500 < y.size) (c0:RdR 5 L (fun x => #[rv K k u m v e x]) (.bool true)) (hT:Tab2 w) :
   Calls Tryd.prog 3 #[.agg #[.int .i64 K,.string k,.slice A n q,.string u,.string m,.string v,.string e],.string y] w fun x w' => x = .returned (.bool true) /\ Since w w':=by
 have t1:decide ((1500:Int) < (y.size:Int)) = true:=decide_eq_true (by omega)
 have HX9:=lH hx
 have hp:=lH (hb_new w Tab2 hT #[.int .i64 K,.string k,.slice A n q,.string u,.string m,.string v,.string e] 26)
 have HX:=lH (hx.since hp.out.since)
 have HP0:=hp
 have HS:=lH (Since.refl (w.alloc (.cells #[.int .i64 K,.string k,.slice A n q,.string u,.string m,.string v,.string e] 26)))
 obtain ⟨_,m0,m1,m2,m3,m4,m5,m6⟩:=hb7 hp
 have c9:=awake27
 clear hx hT
 go_enter Tryd.func3,Tryd.ntmps3
 go_wp2_with fail
 clear m0 m1 m2 m3 m4 m5 m6
 refine (c0.calls0 hp.out.tabs HX.out) ?_
 intro w1 h1
 replace hp:=lH (hp.out.step (Up.up h1))
 replace HX:=lH (HX.out.since (Up.up h1))
 replace HS:=lH (HS.out.step (Up.up h1))
 clear h1
 go_wp2_with fail
 refine (c9.calls0 hp.out.tabs) ?_
 intro w8 h8
 replace HS:=lH (HS.out.step (Up.up h8))
 clear h8
 go_wp2_with fail
 go_ret
 exact ⟨rfl,HP0.out.since.step HS.out⟩
abbrev C7 (W:World) (g:Nat) (a b c d e f k:Value):Prop:=W.cell? ⟨g,0,none⟩ = some a /\ W.cell? ⟨g,1,none⟩ = some b /\ W.cell? ⟨g,2,none⟩ = some c /\ W.cell? ⟨g,3,none⟩ = some d /\ W.cell? ⟨g,4,none⟩ = some e /\ W.cell? ⟨g,5,none⟩ = some f /\ W.cell? ⟨g,6,none⟩ = some k
theorem c7_since {W W':World} {g:Nat} {a b c d e f k:Value} (h:C7 W g a b c d e f k) (hs:Since W W'):C7 W' g a b c d e f k:=by
 obtain ⟨h0,h1,h2,h3,h4,h5,h6⟩:=h
 exact ⟨(Below.cell hs (p:=⟨g,0,none⟩) (lt_cell h0)).trans h0,(Below.cell hs (p:=⟨g,1,none⟩) (lt_cell h1)).trans h1,(Below.cell hs (p:=⟨g,2,none⟩) (lt_cell h2)).trans h2,(Below.cell hs (p:=⟨g,3,none⟩) (lt_cell h3)).trans h3,(Below.cell hs (p:=⟨g,4,none⟩) (lt_cell h4)).trans h4,(Below.cell hs (p:=⟨g,5,none⟩) (lt_cell h5)).trans h5,(Below.cell hs (p:=⟨g,6,none⟩) (lt_cell h6)).trans h6⟩
theorem c7_box (W:World) (a b c d e f k:Value) (t:TypeId):C7 (W.alloc (.cells #[a,b,c,d,e,f,k] t)) W.heap.size a b c d e f k:=⟨(World.cell?_alloc_new _ _ _ _).trans rfl,(World.cell?_alloc_new _ _ _ _).trans rfl,(World.cell?_alloc_new _ _ _ _).trans rfl,(World.cell?_alloc_new _ _ _ _).trans rfl,(World.cell?_alloc_new _ _ _ _).trans rfl,(World.cell?_alloc_new _ _ _ _).trans rfl,(World.cell?_alloc_new _ _ _ _).trans rfl⟩
set_option maxHeartbeats 16000000 in
theorem core (w:World) (K:Int) (k:ByteArray) (A:Option Addr) (n q:Nat) (L:List A2) (u m v e y:ByteArray) (hx:AttsS w (.slice A n q) L) (l1:y.size <= 1500) (c0:RdR 5 L (fun x => #[rv K k u m v e x]) (.bool true))
   (K2 C:Int) (k2 u2 m2 v2 e2:ByteArray) (L2:List A2) (c1:ParR 7 y (K2,k2,L2,(u2,m2,v2,e2)) C) (c2:ParR 8 y (K2,k2,L2,(u2,m2,v2,e2)) C) (E:Int) (c3:RdR 9 L (fun x => #[rv K k u m v e x]) (.int .i64 E)) (c4:RdR 10 L (fun x => #[rv K k u m v e x]) (.int .i64 E))
   (b:Bool) (c5:RdR 11 L (fun x => #[rv K k u m v e x]) (.bool b)) (c6:RdR 12 L (fun x => #[rv K k u m v e x]) (.bool b)) (T:ByteArray) (c7:RdR 13 L (fun x => #[rv K k u m v e x]) (.string T)) (c8:RdR 14 L (fun x => #[rv K k u m v e x]) (.string T)) (hT:Tab2 w) :
   Calls Tryd.prog 3 #[.agg #[.int .i64 K,.string k,.slice A n q,.string u,.string m,.string v,.string e],.string y] w fun x w' => x = .returned (.bool true) /\ Since w w':=by
 have t1:decide ((1500:Int) < (y.size:Int)) = false:=decide_eq_false (by omega)
 have ca:=alike_t K2 k2 u2 m2 v2 e2 L2
 have q0:(T.toList == T.toList) = true:=beq_self_eq_true _
 have q1:(E == E) = true:=beq_self_eq_true _
 have q2:(C == C) = true:=beq_self_eq_true _
 have q3:(b == b) = true:=beq_self_eq_true _
 clear l1
 have HX9:=lH hx
 have hp:=lH (hb_new w Tab2 hT #[.int .i64 K,.string k,.slice A n q,.string u,.string m,.string v,.string e] 26)
 have HX:=lH (hx.since hp.out.since)
 have HP0:=hp
 have HS:=lH (Since.refl (w.alloc (.cells #[.int .i64 K,.string k,.slice A n q,.string u,.string m,.string v,.string e] 26)))
 obtain ⟨_,m0,m1,m2,m3,m4,m5,m6⟩:=hb7 hp
 have c9:=awake27
 clear hx hT
 go_enter Tryd.func3,Tryd.ntmps3
 go_wp2_with fail
 clear m0 m1 m2 m3 m4 m5 m6
 refine (c0.calls0 hp.out.tabs HX.out) ?_
 intro w1 h1
 replace hp:=lH (hp.out.step (Up.up h1))
 replace HX:=lH (HX.out.since (Up.up h1))
 replace HS:=lH (HS.out.step (Up.up h1))
 clear h1
 go_wp2_with fail
 refine (c1 _ hp.out.tabs).mono ?_
 rintro _ w3 ⟨y3,rfl,hy3,hq⟩
 obtain ⟨Ay,cy,rfl,-,-⟩:=hy3.slice
 replace hp:=lH (hp.out.step hq)
 replace HX:=lH (HX.out.since hq)
 replace HS:=lH (HS.out.step hq)
 skip
 clear hq
 dsimp only at hy3
 obtain ⟨n3,hn3⟩:∃ n,n = L2.length:=⟨_,rfl⟩
 dsimp only
 rw [<- hn3] at hy3 ⊢
 clear hn3
 obtain ⟨Cp,hCp⟩:∃ C:Array Value,C = #[.int .i64 K2,.string k2,.slice Ay n3 cy,.string u2,.string m2,.string v2,.string e2]:=⟨_,rfl⟩
 have hq:=(Since.refl w3).alloc (.cells Cp 26)
 have HY:=lH (hy3.since hq)
 have hc7:=c7_box w3 (.int .i64 K2) (.string k2) (.slice Ay n3 cy) (.string u2) (.string m2) (.string v2) (.string e2) 26
 rw [<- hCp] at hc7
 replace hp:=lH (hp.out.step hq)
 replace HX:=lH (HX.out.since hq)
 replace HS:=lH (HS.out.step hq)
 skip
 clear hq hy3
 rw [hCp] at hp HX HS HY hc7
 clear hCp
 go_wp2_with fail
 generalize w3.alloc (.cells #[.int .i64 K2,.string k2,.slice Ay n3 cy,.string u2,.string m2,.string v2,.string e2] 26) = w4 at hp HX HS HY hc7 ⊢
 obtain ⟨g3,hg3⟩:∃ g,w3.heap.size = g:=⟨_,rfl⟩
 rw [hg3] at hc7 ⊢
 clear hg3
 have hc6:=hc7
 clear hc7
 refine (c2 _ hp.out.tabs).mono ?_
 rintro _ w5 ⟨y5,rfl,hy3,hq⟩
 obtain ⟨Az,cz,rfl,-,-⟩:=hy3.slice
 replace hp:=lH (hp.out.step hq)
 replace HX:=lH (HX.out.since hq)
 replace HS:=lH (HS.out.step hq)
 (replace HY:=lH (HY.out.since hq); replace hc6:=c7_since hc6 hq)
 clear hq
 dsimp only at hy3
 obtain ⟨n5,hn3⟩:∃ n,n = L2.length:=⟨_,rfl⟩
 dsimp only
 rw [<- hn3] at hy3 ⊢
 clear hn3
 obtain ⟨Cq,hCp⟩:∃ C:Array Value,C = #[.int .i64 K2,.string k2,.slice Az n5 cz,.string u2,.string m2,.string v2,.string e2]:=⟨_,rfl⟩
 have hq:=(Since.refl w5).alloc (.cells Cq 26)
 have HZ:=lH (hy3.since hq)
 have hc7:=c7_box w5 (.int .i64 K2) (.string k2) (.slice Az n5 cz) (.string u2) (.string m2) (.string v2) (.string e2) 26
 rw [<- hCp] at hc7
 replace hp:=lH (hp.out.step hq)
 replace HX:=lH (HX.out.since hq)
 replace HS:=lH (HS.out.step hq)
 (replace HY:=lH (HY.out.since hq); replace hc6:=c7_since hc6 hq)
 clear hq hy3
 rw [hCp] at hp HX HS HY HZ hc6 hc7
 clear hCp
 go_upto_region 5 with fail
 generalize w5.alloc (.cells #[.int .i64 K2,.string k2,.slice Az n5 cz,.string u2,.string m2,.string v2,.string e2] 26) = w6 at hp HX HS HY HZ hc6 hc7 ⊢
 obtain ⟨g5,hg5⟩:∃ g,w5.heap.size = g:=⟨_,rfl⟩
 rw [hg5] at hc7 ⊢
 clear hg5
 obtain ⟨_,m0,m1,m2,m3,m4,m5,m6⟩:=hb7 hp
 have hHeld:=And.intro (show C7 w6 w.heap.size (.int .i64 K) (.string k) (.slice A n q) (.string u) (.string m) (.string v) (.string e) from ⟨m0,m1,m2,m3,m4,m5,m6⟩) (And.intro hc6 hc7)
 clear m0 m1 m2 m3 m4 m5 m6 hc6 hc7
 have hq:=Since.drew (Since.refl w6)
 replace hp:=lH (hp.out.step hq)
 replace HX:=lH (HX.out.since hq)
 replace HS:=lH (HS.out.step hq)
 replace HY:=lH (HY.out.since hq)
 replace HZ:=lH (HZ.out.since hq)
 replace hHeld:=And.intro (c7_since hHeld.1 hq) (And.intro (c7_since hHeld.2.1 hq) (c7_since hHeld.2.2 hq))
 refine RegW.start (fun W' => C7 W' w.heap.size (.int .i64 K) (.string k) (.slice A n q) (.string u) (.string m) (.string v) (.string e) /\ C7 W' g3 (.int .i64 K2) (.string k2) (.slice Ay n3 cy) (.string u2) (.string m2) (.string v2) (.string e2) /\ C7 W' g5 (.int .i64 K2) (.string k2) (.slice Az n5 cz) (.string u2) (.string m2) (.string v2) (.string e2)) 32 (by kernel_rfl) hHeld (fun _ => ?_)
 generalize w6.drew = wa at hp HX HS HY HZ hHeld ⊢
 clear hq
 refine RegW.tk 0 rfl ?_
 try simp only [RegW.p]
 refine RegW.tk 2 rfl ?_
 try simp only [RegW.p]
 refine RegW.only (i:=1) rfl (by kernel_rfl) (fun K9 hK => ?_)
 go_simp
 refine c3.calls0 hp.out.tabs HX.out ?_
 intro wb hq
 replace hp:=lH (hp.out.step hq)
 replace HX:=lH (HX.out.since hq)
 replace HS:=lH (HS.out.step hq)
 replace HY:=lH (HY.out.since hq)
 replace HZ:=lH (HZ.out.since hq)
 replace hHeld:=And.intro (c7_since hHeld.1 hq) (And.intro (c7_since hHeld.2.1 hq) (c7_since hHeld.2.2 hq))
 clear hq
 refine hK.out _ _ hHeld (fun _ => ?_)
 clear hK K9
 try simp only [RegW.p]
 refine RegW.only (i:=3) rfl (by kernel_rfl) (fun K9 hK => ?_)
 go_simp
 refine c4.calls0 hp.out.tabs HX.out ?_
 intro wb hq
 replace hp:=lH (hp.out.step hq)
 replace HX:=lH (HX.out.since hq)
 replace HS:=lH (HS.out.step hq)
 replace HY:=lH (HY.out.since hq)
 replace HZ:=lH (HZ.out.since hq)
 replace hHeld:=And.intro (c7_since hHeld.1 hq) (And.intro (c7_since hHeld.2.1 hq) (c7_since hHeld.2.2 hq))
 clear hq
 refine hK.out _ _ hHeld (fun _ => ?_)
 clear hK K9
 try simp only [RegW.p]
 refine RegW.tk 4 rfl ?_
 try simp only [RegW.p]
 refine RegW.tk 5 rfl ?_
 try simp only [RegW.p]
 refine RegW.tk 6 rfl ?_
 try simp only [RegW.p]
 refine RegW.tk 8 rfl ?_
 try simp only [RegW.p]
 refine RegW.only (i:=7) rfl (by kernel_rfl) (fun K9 hK => ?_)
 go_simp
 refine c5.calls0 hp.out.tabs HX.out ?_
 intro wb hq
 replace hp:=lH (hp.out.step hq)
 replace HX:=lH (HX.out.since hq)
 replace HS:=lH (HS.out.step hq)
 replace HY:=lH (HY.out.since hq)
 replace HZ:=lH (HZ.out.since hq)
 replace hHeld:=And.intro (c7_since hHeld.1 hq) (And.intro (c7_since hHeld.2.1 hq) (c7_since hHeld.2.2 hq))
 clear hq
 refine hK.out _ _ hHeld (fun _ => ?_)
 clear hK K9
 try simp only [RegW.p]
 refine RegW.only (i:=9) rfl (by kernel_rfl) (fun K9 hK => ?_)
 go_simp
 refine c6.calls0 hp.out.tabs HX.out ?_
 intro wb hq
 replace hp:=lH (hp.out.step hq)
 replace HX:=lH (HX.out.since hq)
 replace HS:=lH (HS.out.step hq)
 replace HY:=lH (HY.out.since hq)
 replace HZ:=lH (HZ.out.since hq)
 replace hHeld:=And.intro (c7_since hHeld.1 hq) (And.intro (c7_since hHeld.2.1 hq) (c7_since hHeld.2.2 hq))
 clear hq
 refine hK.out _ _ hHeld (fun _ => ?_)
 clear hK K9
 try simp only [RegW.p]
 refine RegW.tk 10 rfl ?_
 try simp only [RegW.p]
 refine RegW.tk 11 rfl ?_
 try simp only [RegW.p]
 refine RegW.tk 12 rfl ?_
 try simp only [RegW.p]
 refine RegW.tk 13 rfl ?_
 try simp only [RegW.p]
 refine RegW.tk 15 rfl ?_
 try simp only [RegW.p]
 refine RegW.only (i:=14) rfl (by kernel_rfl) (fun K9 hK => ?_)
 go_simp
 refine c7.calls0 hp.out.tabs HX.out ?_
 intro wb hq
 replace hp:=lH (hp.out.step hq)
 replace HX:=lH (HX.out.since hq)
 replace HS:=lH (HS.out.step hq)
 replace HY:=lH (HY.out.since hq)
 replace HZ:=lH (HZ.out.since hq)
 replace hHeld:=And.intro (c7_since hHeld.1 hq) (And.intro (c7_since hHeld.2.1 hq) (c7_since hHeld.2.2 hq))
 clear hq
 refine hK.out _ _ hHeld (fun _ => ?_)
 clear hK K9
 try simp only [RegW.p]
 refine RegW.only (i:=16) rfl (by kernel_rfl) (fun K9 hK => ?_)
 go_simp
 refine c8.calls0 hp.out.tabs HX.out ?_
 intro wb hq
 replace hp:=lH (hp.out.step hq)
 replace HX:=lH (HX.out.since hq)
 replace HS:=lH (HS.out.step hq)
 replace HY:=lH (HY.out.since hq)
 replace HZ:=lH (HZ.out.since hq)
 replace hHeld:=And.intro (c7_since hHeld.1 hq) (And.intro (c7_since hHeld.2.1 hq) (c7_since hHeld.2.2 hq))
 clear hq
 refine hK.out _ _ hHeld (fun _ => ?_)
 clear hK K9
 try simp only [RegW.p]
 refine RegW.tk 17 rfl ?_
 try simp only [RegW.p]
 refine RegW.tk 18 rfl ?_
 try simp only [RegW.p]
 refine RegW.tk 19 rfl ?_
 try simp only [RegW.p]
 refine RegW.tk 20 rfl ?_
 try simp only [RegW.p]
 refine RegW.tk 21 rfl ?_
 try simp only [RegW.p]
 refine RegW.only (i:=22) rfl (by kernel_rfl) (fun K9 hK => ?_)
 go_simp
 refine ca.calls0 HY.out HZ.out ?_
 intro wb hq
 replace hp:=lH (hp.out.step hq)
 replace HX:=lH (HX.out.since hq)
 replace HS:=lH (HS.out.step hq)
 replace HY:=lH (HY.out.since hq)
 replace HZ:=lH (HZ.out.since hq)
 replace hHeld:=And.intro (c7_since hHeld.1 hq) (And.intro (c7_since hHeld.2.1 hq) (c7_since hHeld.2.2 hq))
 clear hq
 refine hK.out _ _ hHeld (fun _ => ?_)
 clear hK K9
 try simp only [RegW.p]
 refine RegW.tk 23 rfl ?_
 try simp only [RegW.p]
 refine RegW.tk 24 rfl ?_
 try simp only [RegW.p]
 refine RegW.tk 25 rfl ?_
 try simp only [RegW.p]
 refine RegW.tk 26 rfl ?_
 try simp only [RegW.p]
 refine RegW.tk 27 rfl ?_
 try simp only [RegW.p]
 refine RegW.tk 28 rfl ?_
 try simp only [RegW.p]
 refine RegW.tk 29 rfl ?_
 try simp only [RegW.p]
 refine RegW.only (i:=30) rfl (by kernel_rfl) (fun K9 hK => ?_)
 go_simp
 refine c9.calls0 hp.out.tabs ?_
 intro wb hq
 replace hp:=lH (hp.out.step hq)
 replace HX:=lH (HX.out.since hq)
 replace HS:=lH (HS.out.step hq)
 replace HY:=lH (HY.out.since hq)
 replace HZ:=lH (HZ.out.since hq)
 replace hHeld:=And.intro (c7_since hHeld.1 hq) (And.intro (c7_since hHeld.2.1 hq) (c7_since hHeld.2.2 hq))
 clear hq
 refine hK.out _ _ hHeld (fun _ => ?_)
 clear hK K9
 try simp only [RegW.p]
 refine RegW.tk 31 rfl ?_
 try simp only [RegW.p]
 refine RegW.last rfl (by kernel_rfl) (by kernel_rfl) ?_
 clear hHeld
 go_wp2_with fail
 go_ret
 exact ⟨rfl,HP0.out.since.step HS.out⟩
theorem walk (w:World) (K:Int) (k:ByteArray) (A:Option Addr) (n q:Nat) (L:List A2) (u m v e y:ByteArray) (_f0:(Lit.int .i64 K).wf = true) (_f1:k.size <= maxLen) (hx:AttsS w (.slice A n q) L) (_f2:n = L.length) (_f3:∀ p ∈ L,(Lit.int .i64 p.1).wf = true /\ p.2.size <= maxLen)
   (_f4:u.size <= maxLen) (_f5:m.size <= maxLen) (_f6:v.size <= maxLen) (_f7:e.size <= maxLen) (_f8:y.size <= maxLen) (hT:Tab2 w) :
   Calls Tryd.prog 3 #[.agg #[.int .i64 K,.string k,.slice A n q,.string u,.string m,.string v,.string e],.string y] w fun x w' => x = .returned (.bool true) /\ Below w.heap.size w w':=by
 have c0:=plain_rec K k u m v e L
 cases hb:plainB k u m v e L with
 | false => rw [hb] at c0; exact big_1 w K k A n q L u m v e y hx c0 hT
 | true =>
   rw [hb] at c0
   by_cases l1:1500 < y.size
   · exact big_2 w K k A n q L u m v e y hx l1 c0 hT
   obtain ⟨h1,h2,h3⟩:=plain_small hb
   have h6:u.size <= 20 /\ m.size <= 20 /\ v.size <= 20 /\ e.size <= 20:=by
     unfold Plain.headB at h3
     simp only [Bool.and_eq_true,decide_eq_true_eq] at h3
     omega
   exact core w K k A n q L u m v e y hx (by omega) c0 _ _ _ _ _ _ _ _ (parse_k y (by omega)) (rparse_mk y (by omega) _ _ rfl) _ (check_rec K k u m v e L (by omega) _ rfl) (rcheck_rec K k u m v e L (by omega) _ rfl) _ (bare_mk K k u m v e L) (rbare_mk K k u m v e L) _ (text_mk K k u m v e L (by omega) ⟨by omega,by omega,by omega,by omega⟩) (rtext_mk K k u m v e L (by omega) ⟨by omega,by omega,by omega,by omega⟩) hT
theorem own:ownKnob Tryd.prog.godebug = none:=by kernel_rfl
theorem laidOut:laidOutB Tryd.prog = true:=by kernel_rfl
def laidL : List (String × DataW Unit) := [("unicode/utf8.acceptRanges", Rows.laid_unicode_utf8_acceptRanges), ("claviger/curve.lines", Rows.laid_claviger_curve_lines), ("claviger/kind.lines", Rows.laid_claviger_kind_lines), ("unicode/utf8.first", Rows.laid_unicode_utf8_first)]
theorem lifted (os:Os) (started:os.Started) (H:Type) (enc:TypeId × Value -> H) :
   ReturnsInHanded {} Tryd.checked os 3 .any (fun w args => (Rows.recordTellsSpec.pre enc Tryd.prog Tryd.f3 [] false w args /\ laidMetH Tryd.prog laidL w) /\ sizedMet enc Tryd.prog Tryd.f3 (OpenSpec.ofChange Rows.recordTellsSpec) false w args)
     (Rows.recordTellsSpec.post enc Tryd.prog Tryd.f3 false true false false):=by
 refine returnsInHanded_of_change_and (C:=Tryd.checked) (X:=fun w _ => laidMetH Tryd.prog laidL w) (fun _ _ _ hh h => h.of_heap hh) own started (by kernel_rfl) Tryd.func3
   (ChangeSpec.witness_shaped (enc:=enc) (C:=Tryd.checked) (os:=os) (X:=fun w _ => laidMetH Tryd.prog laidL w) false (World.laidAll Tryd.prog os laidL) #[.agg #[.int .i64 0,.string ⟨#[]⟩,.slice none 0 0,.string ⟨#[]⟩,.string ⟨#[]⟩,.string ⟨#[]⟩,.string ⟨#[]⟩],.string ⟨#[]⟩] 8 (World.laidAll_os _ _ _) (World.shaped_of_ZipB (by kernel_rfl) (by kernel_rfl)) (by kernel_rfl) (by kernel_rfl) (by kernel_rfl) (by rw [MakeChecks.laidMetH_plain _ _ _ (by kernel_rfl)]; exact laidMet_laidAll _ (by kernel_rfl) (by kernel_rfl))) ?_
 intro W base args ds gs before hval0 hW _ _ hL _
 have hval:∀ (j:Nat) t v,Tryd.f3.params[j]? = some t -> args[j]? = some v -> Value.okWide Tryd.prog W .any base t v:=hval0
 have hW':=hW
 obtain ⟨p,q,hA0,hV,rfl,hfz,hnd⟩:=hW
 have hA:DataW.TrodAll enc Tryd.prog W 0 (fun _ => true) true Tryd.f3.params.toList args.toList ds p:=hA0
 rw [Tryd.params3] at hA hval
 obtain ⟨v0,vs0,d0,ds0,p0,q0,hargs,rfl,rfl,h0,r0⟩:=trodAll_cons hA
 obtain ⟨v1,vs1,d1,ds1,p1,q1,rfl,rfl,rfl,h1,r1⟩:=trodAll_cons r0
 obtain ⟨rfl,rfl,rfl⟩:=trodAll_nil r1
 obtain rfl:args = #[v0,v1]:=by cases args; simp_all
 obtain ⟨rfl,rfl⟩:=trodVars_none hV
 have h0k:=h0
 have hlt0:∀ x ∈ p0,x.block < W.heap.size:=fun x hx => by simpa using hW'.lt x (by simp [hx])
 obtain ⟨a0_K,a0_k,a0_A,a0_n,a0_q,a0_L,a0_u,a0_m,a0_v,a0_e,rfl,f0_0,f0_1,f0_2,f0_3,f0_4,f0_5,f0_6,f0_7,f0_8⟩:=Rec.record_arg (hval 0 26 v0 rfl rfl) h0 hlt0
 obtain ⟨a1,rfl,rfl,rfl,w1⟩:=Go.ChangeMaps.open_string Tryd.underlying9 (hval 1 9 v1 rfl rfl) h1
 clear hA0 hval0
 simp only [List.append_nil] at hW'
 refine (walk W a0_K a0_k a0_A a0_n a0_q a0_L a0_u a0_m a0_v a0_e a1 f0_0 f0_1 f0_2 f0_3 f0_4 f0_5 f0_6 f0_7 f0_8 w1 (Kind.tabs4_of hL)).mono fun e W' ⟨he,hg⟩ => ?_
 subst he
 exact ⟨_,rfl,_,_,_,_,_,[],hW',(trodAll_cons_mk (shut_bool Tryd.underlying4 _) trodAll_mk0),(trodAll_cons_mk (Below.trod laidOut (by kernel_rfl) (of_decide_eq_true (by kernel_rfl)) h0k hg hlt0) (trodAll_cons_mk (Go.ChangeMaps.shut_string Tryd.underlying9 w1) trodAll_mk0)),rfl,hg.frame _,fun h => by cases h⟩
theorem over:Rows.recordTellsRow.holds Tryd.pinned (OpenSpec.ofChange Rows.recordTellsSpec) :=
 OpenClaim.holds_of_wide 3 Tryd.f3 rfl rfl rfl rfl rfl rfl rfl ⟨rfl,rfl,rfl,rfl,rfl⟩ rfl rfl rfl rfl rfl (by kernel_rfl) Tryd.func3 (by kernel_rfl)
   (of_decide_eq_true (by kernel_rfl)) (by unfold Func.isWrapper; first | (rw [if_pos (by decide +kernel)]; kernel_rfl) | (rw [if_neg (by decide +kernel)]; exact ⟨rfl,rfl⟩))
   (fun os started H enc _ => lifted os started H enc)
theorem proved:Rows.RecordTellsCardSaid :=
 Claim7.holds_tied_plain_at .later [] [.data,.data,.data,.pinned] true Rows.recordTellsCard.stood.harness false
   over (fun _ h => by cases h) (by kernel_rfl) (fun _ h => by cases h) recordTells_row_tie rfl ⟨rfl,rfl⟩ (by kernel_rfl) rfl
   (fun f fn hf hfn => by
     obtain rfl : f = 3 := Option.some.inj ((show Tryd.prog.funcNamed "claviger/clavigerlaw27.RecordTells" = some 3 by kernel_rfl).symm.trans hf) |>.symm
     obtain rfl:fn = Tryd.f3:=(Option.some.inj (Tryd.func3.symm.trans hfn)).symm
     exact ⟨by kernel_rfl,fun j t ht => by
       rw [Tryd.params3] at ht
       have hm:t ∈ [26,9]:=by simpa using Array.mem_of_getElem? ht
       have hall:([26,9].all fun u => !Tryd.prog.wantsStandIn u) = true:=by kernel_rfl
       exact (show Tryd.prog.wantsStandIn t = false by simpa using List.all_eq_true.1 hall t hm)⟩)
   (by kernel_rfl)
end Go.Proofs.YtfnmakelbijmkaaDoor.recordTells
