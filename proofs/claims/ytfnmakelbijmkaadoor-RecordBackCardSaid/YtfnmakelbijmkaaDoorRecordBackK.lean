/- The law RecordBack: what is written is read as it was, what is read is written so again; a copy is its own; no conditions. -/
import Derived.Test.YtfnmakelbijmkaaDoorRows
import Derived.WalkKit
import Derived.ProofKit
import Derived.OpenShut
import Derived.Lib.Hide
import Derived.Test.YtfnmakelbijmkaaDoorRb52
import Derived.Test.YtfnmakelbijmkaaDoorCards
import Derived.Test.YtfnmakelbijmkaaDoorTie
import Derived.LaidMore
import Derived.SevenTiedAt
import Derived.Stop.Joined
import Derived.Lay
set_option maxRecDepth 100000
namespace Go.Proofs.YtfnmakelbijmkaaDoor.recordBack
open Go.ChangeShapes Go.WideShapes Go.ChangeAt Go.RowKit
open Att Rec Rcd Kind Atf Rw Flt Tlv
set_option maxHeartbeats 4000000 in
theorem big_1 (w:World) (K:Int) (k:ByteArray) (A:Option Addr) (n q:Nat) (L:List A2) (u m v e y:ByteArray) (hx:AttsS w (.slice A n q) L) (c0:RdR 5 L (fun x => #[rv K k u m v e x]) (.bool false)) (hT:Tab2 w) :
   Calls Tryd.prog 4 #[.agg #[.int .i64 K,.string k,.slice A n q,.string u,.string m,.string v,.string e],.string y] w fun x w' => x = .returned (.bool true) /\ Since w w':=by
 skip
 have HX9:=lH hx
 have hp:=lH (hb_new w Tab2 hT #[.int .i64 K,.string k,.slice A n q,.string u,.string m,.string v,.string e] 26)
 have HX:=lH (hx.since hp.out.since)
 have HP0:=hp
 have HX0:=HX
 have HS:=lH (Since.refl (w.alloc (.cells #[.int .i64 K,.string k,.slice A n q,.string u,.string m,.string v,.string e] 26)))
 obtain ⟨_,m0,m1,m2,m3,m4,m5,m6⟩:=hb7 hp
 have c9:=awake27
 clear hx hT
 go_enter Tryd.func4,Tryd.ntmps4
 go_wp2_with fail
 clear m0 m1 m2 m3 m4 m5 m6
 refine (c0.calls0 hp.out.tabs HX.out) ?_
 intro w1 h1
 replace hp:=lH (hp.out.step (Up.up h1))
 replace HX:=lH (HX.out.since (Up.up h1))
 replace HS:=lH (HS.out.step (Up.up h1))
 clear h1
 go_wp2_with fail
 refine (c9.calls0 hp.out.tabs) ?_
 intro w8 h8
 replace HS:=lH (HS.out.step (Up.up h8))
 clear h8
 go_wp2_with fail
 go_ret
 exact ⟨rfl,HP0.out.since.step HS.out⟩
set_option maxHeartbeats 4000000 in
theorem big_2 (w:World) (K:Int) (k:ByteArray) (A:Option Addr) (n q:Nat) (L:List A2) (u m v e y:ByteArray) (hx:AttsS w (.slice A n q) L) (l1:1500 < y.size) (c0:RdR 5 L (fun x => #[rv K k u m v e x]) (.bool true)) (hT:Tab2 w) :
   Calls Tryd.prog 4 #[.agg #[.int .i64 K,.string k,.slice A n q,.string u,.string m,.string v,.string e],.string y] w fun x w' => x = .returned (.bool true) /\ Since w w':=by
 have t1:decide ((1500:Int) < (y.size:Int)) = true:=decide_eq_true (by omega)
 have HX9:=lH hx
 have hp:=lH (hb_new w Tab2 hT #[.int .i64 K,.string k,.slice A n q,.string u,.string m,.string v,.string e] 26)
 have HX:=lH (hx.since hp.out.since)
 have HP0:=hp
 have HX0:=HX
 have HS:=lH (Since.refl (w.alloc (.cells #[.int .i64 K,.string k,.slice A n q,.string u,.string m,.string v,.string e] 26)))
 obtain ⟨_,m0,m1,m2,m3,m4,m5,m6⟩:=hb7 hp
 have c9:=awake27
 clear hx hT
 go_enter Tryd.func4,Tryd.ntmps4
 go_wp2_with fail
 clear m0 m1 m2 m3 m4 m5 m6
 refine (c0.calls0 hp.out.tabs HX.out) ?_
 intro w1 h1
 replace hp:=lH (hp.out.step (Up.up h1))
 replace HX:=lH (HX.out.since (Up.up h1))
 replace HS:=lH (HS.out.step (Up.up h1))
 clear h1
 go_wp2_with fail
 refine (c9.calls0 hp.out.tabs) ?_
 intro w8 h8
 replace HS:=lH (HS.out.step (Up.up h8))
 clear h8
 go_wp2_with fail
 go_ret
 exact ⟨rfl,HP0.out.since.step HS.out⟩
theorem own_base {W:World} {base base':Nat} {ty:TypeId} {size:Nat} {v:Value} {n:Nat} {xs:List Value} (h:W.ownsRow base ty size v n xs) (hb:base' <= base):W.ownsRow base' ty size v n xs:=by
 obtain ⟨h1,h2⟩:=h
 refine ⟨h1, ?_⟩
 rcases h2 with h2 | ⟨g,cap,cur,hv,hg,h3⟩
 · exact Or.inl h2
 · exact Or.inr ⟨g,cap,cur,hv,by omega,h3⟩
theorem own_store {W:World} {base g n cap:Nat} {ty:TypeId} {size:Nat} {xs:List Value} (h:W.ownsRow base ty size (.slice (some ⟨g,0,none⟩) n cap) n xs) (i:Nat) (v:Value):∃ X,(W.setCell ⟨g,i,none⟩ v).ownsRow base ty size (.slice (some ⟨g,0,none⟩) n cap) n X:=by
 obtain ⟨h1,h2⟩:=h
 rcases h2 with ⟨e1,-⟩ | ⟨g',cap',cur,hv,hg,hrow,hnc,hcm,hcs,htk⟩
 · cases e1
 cases hv
 refine ⟨((cur.setIfInBounds i v).toList.take (n * size)), ?_,Or.inr ⟨g,cap,cur.setIfInBounds i v,rfl,hg, ?_,hnc,hcm, ?_,rfl⟩⟩
 · rw [List.length_take,Array.length_toList,Array.size_setIfInBounds,hcs]
   exact Nat.min_eq_left (Nat.mul_le_mul_right _ hnc)
 · rw [Go.setCell_eq_setRow W g i cur ty _ v hrow]
   exact setRow_heap _ _ _ _ _ _ hrow
 · rw [Array.size_setIfInBounds,hcs]
set_option maxHeartbeats 8000000 in
theorem core_1 (w:World) (K:Int) (k:ByteArray) (A:Option Addr) (n q:Nat) (L:List A2) (u m v e y:ByteArray) (hx:AttsS w (.slice A n q) L) (l1:y.size <= 1500) (l2:L.length <= 40) (c0:RdR 5 L (fun x => #[rv K k u m v e x]) (.bool true))
   (_h0:recE K k L = 0) (T:ByteArray) (hTx:T = textV K k L u m v e) (hn0:(T.toList == (⟨#[]⟩:ByteArray).toList) = false)
   (c1:RdR 13 L (fun x => #[rv K k u m v e x]) (.string T)) (c2:ParR 7 T (K,k,L,(u,m,v,e)) 0) (c3:RdR 9 L (fun x => #[rv K k u m v e x]) (.int .i64 0)) (hT:Tab2 w) :
   Calls Tryd.prog 4 #[.agg #[.int .i64 K,.string k,.slice A n q,.string u,.string m,.string v,.string e],.string y] w fun x w' => x = .returned (.bool true) /\ Since w w':=by
 have t1:decide ((1500:Int) < (y.size:Int)) = false:=decide_eq_false (by omega)
 have HY9:=lH l1
 clear l1
 have c5:=alike_t K k u m v e L
 have q0:(T.toList == T.toList) = true:=beq_self_eq_true _
 have HTX:=lH hTx
 clear hTx
 have hn1:(T.toList == ([]:List UInt8)) = false:=by rw [<- (by decide +kernel:(⟨#[]⟩:ByteArray).toList = [])]; exact hn0
 have hn2:(T.toList != ([]:List UInt8)) = true:=by rw [bne,hn1]; rfl
 have HX9:=lH hx
 have hp:=lH (hb_new w Tab2 hT #[.int .i64 K,.string k,.slice A n q,.string u,.string m,.string v,.string e] 26)
 have HX:=lH (hx.since hp.out.since)
 have HP0:=hp
 have HX0:=HX
 have HS:=lH (Since.refl (w.alloc (.cells #[.int .i64 K,.string k,.slice A n q,.string u,.string m,.string v,.string e] 26)))
 obtain ⟨_,m0,m1,m2,m3,m4,m5,m6⟩:=hb7 hp
 have c9:=awake27
 clear hx hT
 go_enter Tryd.func4,Tryd.ntmps4
 go_wp2_with fail
 clear m0 m1 m2 m3 m4 m5 m6
 refine (c0.calls0 hp.out.tabs HX.out) ?_
 intro w1 h1
 replace hp:=lH (hp.out.step (Up.up h1))
 replace HX:=lH (HX.out.since (Up.up h1))
 replace HS:=lH (HS.out.step (Up.up h1))
 clear h1
 obtain ⟨_,m0,m1,m2,m3,m4,m5,m6⟩:=hb7 hp
 go_wp2_with fail
 clear m0 m1 m2 m3 m4 m5 m6
 refine (c1.calls0 hp.out.tabs HX.out) ?_
 intro w2 h2
 replace hp:=lH (hp.out.step (Up.up h2))
 replace HX:=lH (HX.out.since (Up.up h2))
 replace HS:=lH (HS.out.step (Up.up h2))
 clear h2
 go_wp2_with fail
 refine (c2 _ hp.out.tabs).mono ?_
 rintro _ w3 ⟨y3,rfl,hy3,hq⟩
 obtain ⟨Ay,cy,rfl,-,-⟩:=hy3.slice
 have HY:=lH hy3
 replace hp:=lH (hp.out.step hq)
 replace HX:=lH (HX.out.since hq)
 replace HS:=lH (HS.out.step hq)
 clear hq hy3
 obtain ⟨n3,hn3⟩:∃ n,n = L.length:=⟨_,rfl⟩
 dsimp only at HY ⊢
 rw [<- hn3] at HY ⊢
 clear hn3
 obtain ⟨Cp,hCp⟩:∃ C:Array Value,C = #[.int .i64 K,.string k,.slice Ay n3 cy,.string u,.string m,.string v,.string e]:=⟨_,rfl⟩
 have hr:Hid (HR w3 w3.heap.size Cp 26 (w3.alloc (.cells Cp 26))):=lH ⟨heap_alloc_new w3 _⟩
 replace hp:=lH (hp.out.step ((Below.refl _ w3).alloc (Nat.le_refl _) (.cells Cp 26)))
 replace HS:=lH (HS.out.alloc (.cells Cp 26))
 replace HX:=lH (HX.out.since ((Since.refl _).alloc (.cells Cp 26)))
 replace HY:=lH (HY.out.since ((Since.refl _).alloc (.cells Cp 26)))
 rw [hCp] at hp hr HS HX HY
 clear hCp
 obtain ⟨_,m0,m1,m2,m3,m4,m5,m6⟩:=hb7 hp
 go_wp2_with fail
 clear m0 m1 m2 m3 m4 m5 m6
 refine c3.calls0 hp.out.tabs HX.out ?_
 intro w4 hq
 replace hr:=lH (hr.out.step hq)
 replace hp:=lH (hp.out.step hq)
 replace HS:=lH (HS.out.step hq)
 replace HX:=lH (HX.out.since hq)
 replace HY:=lH (HY.out.since hq)
 clear hq
 obtain ⟨_,m0,m1,m2,m3,m4,m5,m6⟩:=hb7 hp
 have p0:=hr_cell hr.out 0 _ rfl
 have p1:=hr_cell hr.out 1 _ rfl
 have p2:=hr_cell hr.out 2 _ rfl
 have p3:=hr_cell hr.out 3 _ rfl
 have p4:=hr_cell hr.out 4 _ rfl
 have p5:=hr_cell hr.out 5 _ rfl
 have p6:=hr_cell hr.out 6 _ rfl
 go_wp2_with fail
 clear m0 m1 m2 m3 m4 m5 m6 p0 p1 p2 p3 p4 p5 p6
 refine c5.calls0 HY.out HX.out ?_
 intro w5 hq
 replace hr:=lH (hr.out.step hq)
 replace hp:=lH (hp.out.step hq)
 replace HS:=lH (HS.out.step hq)
 replace HX:=lH (HX.out.since hq)
 replace HY:=lH (HY.out.since hq)
 clear hq
 obtain ⟨_,m0,m1,m2,m3,m4,m5,m6⟩:=hb7 hp
 have p0:=hr_cell hr.out 0 _ rfl
 have p1:=hr_cell hr.out 1 _ rfl
 have p2:=hr_cell hr.out 2 _ rfl
 have p3:=hr_cell hr.out 3 _ rfl
 have p4:=hr_cell hr.out 4 _ rfl
 have p5:=hr_cell hr.out 5 _ rfl
 have p6:=hr_cell hr.out 6 _ rfl
 go_wp2_with fail
 clear m0 m1 m2 m3 m4 m5 m6 p0 p1 p2 p3 p4 p5 p6
 have hpar:=parse_k y (by have:=HY9.out; omega)
 obtain ⟨⟨⟨K2,k2,L2,u2,v2,x2,e2⟩,E2⟩,hR⟩:∃ z,z = parV y:=⟨_,rfl⟩
 rw [<- hR] at hpar
 have HR9:=lH hR
 clear hR
 refine (hpar _ hp.out.tabs).mono ?_
 rintro _ w6 ⟨y4,rfl,hy4,hq⟩
 obtain ⟨A4,q4,rfl,-,-⟩:=hy4.slice
 have HZ:=lH hy4
 replace hp:=lH (hp.out.step hq)
 replace HX:=lH (HX.out.since hq)
 replace HS:=lH (HS.out.step hq)
 clear hq hy4 hr HY
 obtain ⟨n4,hn4⟩:∃ n,n = L2.length:=⟨_,rfl⟩
 dsimp only at HZ ⊢
 rw [<- hn4] at HZ ⊢
 clear hn4
 obtain ⟨Cq,hCq⟩:∃ C:Array Value,C = #[.int .i64 K2,.string k2,.slice A4 n4 q4,.string u2,.string v2,.string x2,.string e2]:=⟨_,rfl⟩
 have hr:Hid (HR w6 w6.heap.size Cq 26 (w6.alloc (.cells Cq 26))):=lH ⟨heap_alloc_new w6 _⟩
 replace hp:=lH (hp.out.step ((Below.refl _ w6).alloc (Nat.le_refl _) (.cells Cq 26)))
 replace HS:=lH (HS.out.alloc (.cells Cq 26))
 replace HX:=lH (HX.out.since ((Since.refl _).alloc (.cells Cq 26)))
 have HY:=lH (HZ.out.since ((Since.refl _).alloc (.cells Cq 26)))
 clear HZ
 rw [hCq] at hp hr HS HX HY
 clear hCq
 obtain ⟨_,m0,m1,m2,m3,m4,m5,m6⟩:=hb7 hp
 have p0:=hr_cell hr.out 0 _ rfl
 have p1:=hr_cell hr.out 1 _ rfl
 have p2:=hr_cell hr.out 2 _ rfl
 have p3:=hr_cell hr.out 3 _ rfl
 have p4:=hr_cell hr.out 4 _ rfl
 have p5:=hr_cell hr.out 5 _ rfl
 have p6:=hr_cell hr.out 6 _ rfl
 have c7:=copy_mk K k u m v e L (by omega)
 rcases par_no y with hE | hE
 · obtain rfl:E2 = 0:=by rw [<- HR9.out] at hE; exact hE
   obtain ⟨hy1,hy2⟩:=par_ok hE
   rw [<- HR9.out] at hy1 hy2
   have hsz:=cand_size hy2
   have hl9:y.data.toList.length = y.size:=rfl
   have h9:=HY9.out
   dsimp only at hsz
   have c6:=text_mk K2 k2 u2 v2 x2 e2 L2 (by omega) ⟨by omega,by omega,by omega,by omega⟩
   rw [show textV K2 k2 L2 u2 v2 x2 e2 = y from hy1] at c6
   have q1:(y.toList == y.toList) = true:=beq_self_eq_true _
   clear hE hy1 hy2 hsz hl9 h9
   go_wp2_with fail
   refine c6.calls0 hp.out.tabs HY.out ?_
   clear m0 m1 m2 m3 m4 m5 m6 p0 p1 p2 p3 p4 p5 p6
   intro w7 hq
   replace hp:=lH (hp.out.step hq)
   replace HS:=lH (HS.out.step hq)
   replace HX:=lH (HX.out.since hq)
   clear hq hr HY
   obtain ⟨_,m0,m1,m2,m3,m4,m5,m6⟩:=hb7 hp
   go_wp2_with fail
   refine (c7 w7 _ HX.out).mono ?_
   clear m0 m1 m2 m3 m4 m5 m6
   rintro _ w8 ⟨yc,rfl,ho,hq⟩
   have hWlt:=hp.out.lg
   replace hp:=lH (hp.out.step hq)
   replace HS:=lH (HS.out.step hq)
   replace HX:=lH (HX.out.since hq)
   obtain ⟨Ac,cc,rfl,-⟩:=Atf.own_slice ho
   obtain ⟨n8,hn8⟩:∃ n,n = L.length:=⟨_,rfl⟩
   rw [<- hn8] at ho ⊢
   have HN8:=lH hn8
   clear hn8
   obtain ⟨Cc,hCc⟩:∃ C:Array Value,C = #[.int .i64 K,.string k,.slice Ac n8 cc,.string u,.string m,.string v,.string e]:=⟨_,rfl⟩
   have hr:Hid (HR w8 w8.heap.size Cc 26 (w8.alloc (.cells Cc 26))):=lH ⟨heap_alloc_new w8 _⟩
   replace hp:=lH (hp.out.step ((Below.refl _ w8).alloc (Nat.le_refl _) (.cells Cc 26)))
   replace HS:=lH (HS.out.alloc (.cells Cc 26))
   replace HX:=lH (HX.out.since ((Since.refl _).alloc (.cells Cc 26)))
   have hlt:=ho.lt
   have HO:Hid ((w8.alloc (.cells Cc 26)).ownsRow (w.heap.size + 1) 38 2 (.slice Ac n8 cc) n8 (L.flatMap ac)):=lH (own_base (ho.alloc _) (by omega))
   have HNE:Hid ((Value.slice Ac n8 cc).ownBlock ≠ some w8.heap.size):=lH (fun e => by have:=hlt _ e; omega)
   rw [hCc] at hp hr HS HX HO
   clear hCc hq ho hWlt hlt
   obtain ⟨_,m0,m1,m2,m3,m4,m5,m6⟩:=hb7 hp
   have p2:=hr_cell hr.out 2 _ rfl
   go_wp2_with fail
   obtain ⟨gq,hgq⟩:∃ g,g = w8.heap.size:=⟨_,rfl⟩
   rw [<- hgq] at hr HNE ⊢
   generalize w8.alloc (.cells #[.int .i64 K,.string k,.slice Ac n8 cc,.string u,.string m,.string v,.string e] 26) = w9 at hp HS HX HO hr m0 m1 m2 m3 m4 m5 m6 p2 ⊢
   clear m0 m1 m2 m3 m4 m5 m6 p2 hp HX hgq
   obtain ⟨w00,hw00⟩:∃ W,W = w.alloc (.cells #[.int .i64 K,.string k,.slice A n q,.string u,.string m,.string v,.string e] 26):=⟨_,rfl⟩
   rw [<- hw00] at HP0 HX0 HS
   have hz00:w00.heap.size = w.heap.size + 1:=by rw [hw00]; simp
   rw [<- hz00] at HO
   clear hw00
   go_loopw [11] (fun i wr => ∃ (j:Nat) (X:List Value),j <= n8 /\ i = .int .i64 (j:Int) /\ Hid (wr.ownsRow w00.heap.size 38 2 (.slice Ac n8 cc) n8 X) /\ Hid (HR w8 gq #[.int .i64 K,.string k,.slice Ac n8 cc,.string u,.string m,.string v,.string e] 26 wr) /\ Hid (Since w00 wr)) (fun i _ => n8 - (intOf i).toNat)
   case atStart => exact ⟨0,_,by omega,rfl,HO,hr,HS⟩
   case round =>
     clear HO hr HS
     obtain ⟨j,X,hj,rfl,HO,hr,HS⟩:=hrel
     have p2:=hr_cell hr.out 2 _ rfl
     by_cases hlt:j < n8
     · obtain ⟨hXl,hX2⟩:=HO.out
       rcases hX2 with ⟨e1,e2⟩ | ⟨gc,cap,cur,hv,hgb,hrow,hnc,hcm,hcs,htk⟩
       · omega
       cases hv
       have hg9:HR w8 gc cur 38 wr:=⟨hrow⟩
       have hne9:gq ≠ gc:=fun e9 => HNE.out (by rw [e9]; rfl)
       have kk:wr.cell? ⟨gc,j * 2,none⟩ = some (cur[j * 2]'(by omega)):=hr_cell hg9 (j * 2) _ (Array.getElem?_eq_getElem (by omega))
       have ff:=hr_free hg9 (j * 2)
       have HS2:=lH (since_cell HS.out hgb (j * 2) (.int .i64 (-7)))
       have hr2:=lH (hr_low hr.out hg9 hne9 (j * 2) (.int .i64 (-7)))
       obtain ⟨X2,ho2⟩:=own_store HO.out (j * 2) (.int .i64 (-7))
       have HO2:=lH ho2
       have i1:(0:Int) <= (j:Int):=by omega
       have i2:(j:Int) < (n8:Int):=by omega
       generalize cur[j * 2]'(by omega) = vv at kk
       have i3:n8 <= 40:=by have:=HN8.out; omega
       clear hXl hrow hnc hcm hcs htk hg9 hne9 ho2 hgb
       go_wp2_with fail
       go_roundw
       case rel => exact ⟨j + 1,X2,by omega,by go_num,HO2,hr2,HS2⟩
       case measure => simp [intOf]; omega
     · obtain rfl:n8 = j:=by omega
       go_wp2_with fail
       clear p2 hr HO
       go_loopw [12] (fun i wr => ∃ (j:Nat),j <= n /\ i = .int .i64 (j:Int) /\ Hid (Since w00 wr)) (fun i _ => n - (intOf i).toNat)
       case atStart => exact ⟨0,by omega,rfl,HS⟩
       case round =>
         clear HS
         obtain ⟨j,hj,rfl,HS⟩:=hrel
         have hp:=lH (HP0.out.step HS.out)
         obtain ⟨_,m0,m1,m2,m3,m4,m5,m6⟩:=hb7 hp
         by_cases hlt:j < n
         · have HX:=HX0.out.since HS.out
           have hnL:n = L.length:=by
             obtain ⟨A',c',e9,-,-⟩:=HX.slice
             exact (Value.slice.inj e9).2.1
           obtain ⟨b,o,c',hv,g1,g2,g3,g4⟩:=HX.form (by omega)
           obtain ⟨e1,-,e3⟩:=Value.slice.inj hv
           subst e1 e3
           obtain ⟨⟨tg,sv⟩,hs⟩:∃ z,L[j]? = some z:=⟨L[j]'(by omega),List.getElem?_eq_getElem _⟩
           obtain ⟨a0,a1⟩:=g4 j _ hs
           have i1:(0:Int) <= (j:Int):=by omega
           have i2:(j:Int) < (n:Int):=by omega
           have i3:n <= 40:=by omega
           clear hs g4 g1 g2 g3 HX hnL hv
           by_cases ht:tg = -7
           · have q1:(tg == -7) = true:=by rw [ht]; rfl
             clear ht
             go_wp2_with fail
             refine c9.calls0 hp.out.tabs ?_
             intro wB hq
             replace HS:=lH (HS.out.step hq)
             clear hq m0 m1 m2 m3 m4 m5 m6 a0 a1
             go_wp2_with fail
             go_ret
             exact ⟨rfl,HP0.out.since.step HS.out⟩
           · have q1:(tg == -7) = false:=beq_eq_false_iff_ne.2 ht
             clear ht
             go_wp2_with fail
             go_roundw
             case rel => exact ⟨j + 1,by omega,by go_num,HS⟩
             case measure => simp [intOf]; omega
         · obtain rfl:n = j:=by omega
           go_wp2_with fail
           refine c1.calls0 hp.out.tabs (HX0.out.since HS.out) ?_
           clear m0 m1 m2 m3 m4 m5 m6
           intro wA hq
           replace hp:=lH (hp.out.step hq)
           replace HS:=lH (HS.out.step hq)
           clear hq
           go_wp2_with fail
           refine c9.calls0 hp.out.tabs ?_
           intro wB hq
           replace HS:=lH (HS.out.step hq)
           clear hq
           go_wp2_with fail
           go_ret
           exact ⟨rfl,HP0.out.since.step HS.out⟩
 · obtain rfl:E2 = 5:=by rw [<- HR9.out] at hE; exact (Prod.mk.inj hE).2
   clear hE
   go_wp2_with fail
   clear p0 p1 p2 p3 p4 p5 p6 hr HY
   generalize w6.alloc (.cells #[.int .i64 K2,.string k2,.slice A4 n4 q4,.string u2,.string v2,.string x2,.string e2] 26) = w7 at hp HS HX m0 m1 m2 m3 m4 m5 m6 ⊢
   refine (c7 w7 _ HX.out).mono ?_
   clear m0 m1 m2 m3 m4 m5 m6
   rintro _ w8 ⟨yc,rfl,ho,hq⟩
   have hWlt:=hp.out.lg
   replace hp:=lH (hp.out.step hq)
   replace HS:=lH (HS.out.step hq)
   replace HX:=lH (HX.out.since hq)
   obtain ⟨Ac,cc,rfl,-⟩:=Atf.own_slice ho
   obtain ⟨n8,hn8⟩:∃ n,n = L.length:=⟨_,rfl⟩
   rw [<- hn8] at ho ⊢
   have HN8:=lH hn8
   clear hn8
   obtain ⟨Cc,hCc⟩:∃ C:Array Value,C = #[.int .i64 K,.string k,.slice Ac n8 cc,.string u,.string m,.string v,.string e]:=⟨_,rfl⟩
   have hr:Hid (HR w8 w8.heap.size Cc 26 (w8.alloc (.cells Cc 26))):=lH ⟨heap_alloc_new w8 _⟩
   replace hp:=lH (hp.out.step ((Below.refl _ w8).alloc (Nat.le_refl _) (.cells Cc 26)))
   replace HS:=lH (HS.out.alloc (.cells Cc 26))
   replace HX:=lH (HX.out.since ((Since.refl _).alloc (.cells Cc 26)))
   have hlt:=ho.lt
   have HO:Hid ((w8.alloc (.cells Cc 26)).ownsRow (w.heap.size + 1) 38 2 (.slice Ac n8 cc) n8 (L.flatMap ac)):=lH (own_base (ho.alloc _) (by omega))
   have HNE:Hid ((Value.slice Ac n8 cc).ownBlock ≠ some w8.heap.size):=lH (fun e => by have:=hlt _ e; omega)
   rw [hCc] at hp hr HS HX HO
   clear hCc hq ho hWlt hlt
   obtain ⟨_,m0,m1,m2,m3,m4,m5,m6⟩:=hb7 hp
   have p2:=hr_cell hr.out 2 _ rfl
   go_wp2_with fail
   obtain ⟨gq,hgq⟩:∃ g,g = w8.heap.size:=⟨_,rfl⟩
   rw [<- hgq] at hr HNE ⊢
   generalize w8.alloc (.cells #[.int .i64 K,.string k,.slice Ac n8 cc,.string u,.string m,.string v,.string e] 26) = w9 at hp HS HX HO hr m0 m1 m2 m3 m4 m5 m6 p2 ⊢
   clear m0 m1 m2 m3 m4 m5 m6 p2 hp HX hgq
   obtain ⟨w00,hw00⟩:∃ W,W = w.alloc (.cells #[.int .i64 K,.string k,.slice A n q,.string u,.string m,.string v,.string e] 26):=⟨_,rfl⟩
   rw [<- hw00] at HP0 HX0 HS
   have hz00:w00.heap.size = w.heap.size + 1:=by rw [hw00]; simp
   rw [<- hz00] at HO
   clear hw00
   go_loopw [11] (fun i wr => ∃ (j:Nat) (X:List Value),j <= n8 /\ i = .int .i64 (j:Int) /\ Hid (wr.ownsRow w00.heap.size 38 2 (.slice Ac n8 cc) n8 X) /\ Hid (HR w8 gq #[.int .i64 K,.string k,.slice Ac n8 cc,.string u,.string m,.string v,.string e] 26 wr) /\ Hid (Since w00 wr)) (fun i _ => n8 - (intOf i).toNat)
   case atStart => exact ⟨0,_,by omega,rfl,HO,hr,HS⟩
   case round =>
     clear HO hr HS
     obtain ⟨j,X,hj,rfl,HO,hr,HS⟩:=hrel
     have p2:=hr_cell hr.out 2 _ rfl
     by_cases hlt:j < n8
     · obtain ⟨hXl,hX2⟩:=HO.out
       rcases hX2 with ⟨e1,e2⟩ | ⟨gc,cap,cur,hv,hgb,hrow,hnc,hcm,hcs,htk⟩
       · omega
       cases hv
       have hg9:HR w8 gc cur 38 wr:=⟨hrow⟩
       have hne9:gq ≠ gc:=fun e9 => HNE.out (by rw [e9]; rfl)
       have kk:wr.cell? ⟨gc,j * 2,none⟩ = some (cur[j * 2]'(by omega)):=hr_cell hg9 (j * 2) _ (Array.getElem?_eq_getElem (by omega))
       have ff:=hr_free hg9 (j * 2)
       have HS2:=lH (since_cell HS.out hgb (j * 2) (.int .i64 (-7)))
       have hr2:=lH (hr_low hr.out hg9 hne9 (j * 2) (.int .i64 (-7)))
       obtain ⟨X2,ho2⟩:=own_store HO.out (j * 2) (.int .i64 (-7))
       have HO2:=lH ho2
       have i1:(0:Int) <= (j:Int):=by omega
       have i2:(j:Int) < (n8:Int):=by omega
       generalize cur[j * 2]'(by omega) = vv at kk
       have i3:n8 <= 40:=by have:=HN8.out; omega
       clear hXl hrow hnc hcm hcs htk hg9 hne9 ho2 hgb
       go_wp2_with fail
       go_roundw
       case rel => exact ⟨j + 1,X2,by omega,by go_num,HO2,hr2,HS2⟩
       case measure => simp [intOf]; omega
     · obtain rfl:n8 = j:=by omega
       go_wp2_with fail
       clear p2 hr HO
       go_loopw [12] (fun i wr => ∃ (j:Nat),j <= n /\ i = .int .i64 (j:Int) /\ Hid (Since w00 wr)) (fun i _ => n - (intOf i).toNat)
       case atStart => exact ⟨0,by omega,rfl,HS⟩
       case round =>
         clear HS
         obtain ⟨j,hj,rfl,HS⟩:=hrel
         have hp:=lH (HP0.out.step HS.out)
         obtain ⟨_,m0,m1,m2,m3,m4,m5,m6⟩:=hb7 hp
         by_cases hlt:j < n
         · have HX:=HX0.out.since HS.out
           have hnL:n = L.length:=by
             obtain ⟨A',c',e9,-,-⟩:=HX.slice
             exact (Value.slice.inj e9).2.1
           obtain ⟨b,o,c',hv,g1,g2,g3,g4⟩:=HX.form (by omega)
           obtain ⟨e1,-,e3⟩:=Value.slice.inj hv
           subst e1 e3
           obtain ⟨⟨tg,sv⟩,hs⟩:∃ z,L[j]? = some z:=⟨L[j]'(by omega),List.getElem?_eq_getElem _⟩
           obtain ⟨a0,a1⟩:=g4 j _ hs
           have i1:(0:Int) <= (j:Int):=by omega
           have i2:(j:Int) < (n:Int):=by omega
           have i3:n <= 40:=by omega
           clear hs g4 g1 g2 g3 HX hnL hv
           by_cases ht:tg = -7
           · have q1:(tg == -7) = true:=by rw [ht]; rfl
             clear ht
             go_wp2_with fail
             refine c9.calls0 hp.out.tabs ?_
             intro wB hq
             replace HS:=lH (HS.out.step hq)
             clear hq m0 m1 m2 m3 m4 m5 m6 a0 a1
             go_wp2_with fail
             go_ret
             exact ⟨rfl,HP0.out.since.step HS.out⟩
           · have q1:(tg == -7) = false:=beq_eq_false_iff_ne.2 ht
             clear ht
             go_wp2_with fail
             go_roundw
             case rel => exact ⟨j + 1,by omega,by go_num,HS⟩
             case measure => simp [intOf]; omega
         · obtain rfl:n = j:=by omega
           go_wp2_with fail
           refine c1.calls0 hp.out.tabs (HX0.out.since HS.out) ?_
           clear m0 m1 m2 m3 m4 m5 m6
           intro wA hq
           replace hp:=lH (hp.out.step hq)
           replace HS:=lH (HS.out.step hq)
           clear hq
           go_wp2_with fail
           refine c9.calls0 hp.out.tabs ?_
           intro wB hq
           replace HS:=lH (HS.out.step hq)
           clear hq
           go_wp2_with fail
           go_ret
           exact ⟨rfl,HP0.out.since.step HS.out⟩
set_option maxHeartbeats 8000000 in
theorem core_2 (w:World) (K:Int) (k:ByteArray) (A:Option Addr) (n q:Nat) (L:List A2) (u m v e y:ByteArray) (hx:AttsS w (.slice A n q) L) (l1:y.size <= 1500) (l2:L.length <= 40) (c0:RdR 5 L (fun x => #[rv K k u m v e x]) (.bool true))
   (T:ByteArray) (hTx:T = ⟨#[]⟩) (E:Int) (hE:(E == 0) = false) (c1:RdR 13 L (fun x => #[rv K k u m v e x]) (.string T)) (c2:ParR 7 T (0,⟨#[]⟩,[],(⟨#[]⟩,⟨#[]⟩,⟨#[]⟩,⟨#[]⟩)) 5) (c3:RdR 9 L (fun x => #[rv K k u m v e x]) (.int .i64 E)) (hT:Tab2 w) :
   Calls Tryd.prog 4 #[.agg #[.int .i64 K,.string k,.slice A n q,.string u,.string m,.string v,.string e],.string y] w fun x w' => x = .returned (.bool true) /\ Since w w':=by
 have t1:decide ((1500:Int) < (y.size:Int)) = false:=decide_eq_false (by omega)
 have HY9:=lH l1
 clear l1
 have q0:(T.toList == T.toList) = true:=beq_self_eq_true _
 have HTX:=lH hTx
 clear hTx
 have hn1:(T.toList == ([]:List UInt8)) = true:=by rw [HTX.out]; decide +kernel
 have HX9:=lH hx
 have hp:=lH (hb_new w Tab2 hT #[.int .i64 K,.string k,.slice A n q,.string u,.string m,.string v,.string e] 26)
 have HX:=lH (hx.since hp.out.since)
 have HP0:=hp
 have HX0:=HX
 have HS:=lH (Since.refl (w.alloc (.cells #[.int .i64 K,.string k,.slice A n q,.string u,.string m,.string v,.string e] 26)))
 obtain ⟨_,m0,m1,m2,m3,m4,m5,m6⟩:=hb7 hp
 have c9:=awake27
 clear hx hT
 go_enter Tryd.func4,Tryd.ntmps4
 go_wp2_with fail
 clear m0 m1 m2 m3 m4 m5 m6
 refine (c0.calls0 hp.out.tabs HX.out) ?_
 intro w1 h1
 replace hp:=lH (hp.out.step (Up.up h1))
 replace HX:=lH (HX.out.since (Up.up h1))
 replace HS:=lH (HS.out.step (Up.up h1))
 clear h1
 obtain ⟨_,m0,m1,m2,m3,m4,m5,m6⟩:=hb7 hp
 go_wp2_with fail
 clear m0 m1 m2 m3 m4 m5 m6
 refine (c1.calls0 hp.out.tabs HX.out) ?_
 intro w2 h2
 replace hp:=lH (hp.out.step (Up.up h2))
 replace HX:=lH (HX.out.since (Up.up h2))
 replace HS:=lH (HS.out.step (Up.up h2))
 clear h2
 go_wp2_with fail
 refine (c2 _ hp.out.tabs).mono ?_
 rintro _ w3 ⟨y3,rfl,hy3,hq⟩
 obtain ⟨Ay,cy,rfl,-,-⟩:=hy3.slice
 have HY:=lH hy3
 replace hp:=lH (hp.out.step hq)
 replace HX:=lH (HX.out.since hq)
 replace HS:=lH (HS.out.step hq)
 clear hq hy3
 obtain ⟨n3,hn3⟩:∃ n,n = ([]:List A2).length:=⟨_,rfl⟩
 dsimp only at HY ⊢
 rw [<- hn3] at HY ⊢
 clear hn3
 obtain ⟨Cp,hCp⟩:∃ C:Array Value,C = #[.int .i64 0,.string ⟨#[]⟩,.slice Ay n3 cy,.string ⟨#[]⟩,.string ⟨#[]⟩,.string ⟨#[]⟩,.string ⟨#[]⟩]:=⟨_,rfl⟩
 have hr:Hid (HR w3 w3.heap.size Cp 26 (w3.alloc (.cells Cp 26))):=lH ⟨heap_alloc_new w3 _⟩
 replace hp:=lH (hp.out.step ((Below.refl _ w3).alloc (Nat.le_refl _) (.cells Cp 26)))
 replace HS:=lH (HS.out.alloc (.cells Cp 26))
 replace HX:=lH (HX.out.since ((Since.refl _).alloc (.cells Cp 26)))
 replace HY:=lH (HY.out.since ((Since.refl _).alloc (.cells Cp 26)))
 rw [hCp] at hp hr HS HX HY
 clear hCp
 obtain ⟨_,m0,m1,m2,m3,m4,m5,m6⟩:=hb7 hp
 go_wp2_with fail
 clear m0 m1 m2 m3 m4 m5 m6
 refine c3.calls0 hp.out.tabs HX.out ?_
 intro w4 hq
 replace hr:=lH (hr.out.step hq)
 replace hp:=lH (hp.out.step hq)
 replace HS:=lH (HS.out.step hq)
 replace HX:=lH (HX.out.since hq)
 replace HY:=lH (HY.out.since hq)
 clear hq
 obtain ⟨_,m0,m1,m2,m3,m4,m5,m6⟩:=hb7 hp
 have p0:=hr_cell hr.out 0 _ rfl
 have p1:=hr_cell hr.out 1 _ rfl
 have p2:=hr_cell hr.out 2 _ rfl
 have p3:=hr_cell hr.out 3 _ rfl
 have p4:=hr_cell hr.out 4 _ rfl
 have p5:=hr_cell hr.out 5 _ rfl
 have p6:=hr_cell hr.out 6 _ rfl
 go_wp2_with fail
 clear m0 m1 m2 m3 m4 m5 m6 p0 p1 p2 p3 p4 p5 p6
 have hpar:=parse_k y (by have:=HY9.out; omega)
 obtain ⟨⟨⟨K2,k2,L2,u2,v2,x2,e2⟩,E2⟩,hR⟩:∃ z,z = parV y:=⟨_,rfl⟩
 rw [<- hR] at hpar
 have HR9:=lH hR
 clear hR
 refine (hpar _ hp.out.tabs).mono ?_
 rintro _ w6 ⟨y4,rfl,hy4,hq⟩
 obtain ⟨A4,q4,rfl,-,-⟩:=hy4.slice
 have HZ:=lH hy4
 replace hp:=lH (hp.out.step hq)
 replace HX:=lH (HX.out.since hq)
 replace HS:=lH (HS.out.step hq)
 clear hq hy4 hr HY
 obtain ⟨n4,hn4⟩:∃ n,n = L2.length:=⟨_,rfl⟩
 dsimp only at HZ ⊢
 rw [<- hn4] at HZ ⊢
 clear hn4
 obtain ⟨Cq,hCq⟩:∃ C:Array Value,C = #[.int .i64 K2,.string k2,.slice A4 n4 q4,.string u2,.string v2,.string x2,.string e2]:=⟨_,rfl⟩
 have hr:Hid (HR w6 w6.heap.size Cq 26 (w6.alloc (.cells Cq 26))):=lH ⟨heap_alloc_new w6 _⟩
 replace hp:=lH (hp.out.step ((Below.refl _ w6).alloc (Nat.le_refl _) (.cells Cq 26)))
 replace HS:=lH (HS.out.alloc (.cells Cq 26))
 replace HX:=lH (HX.out.since ((Since.refl _).alloc (.cells Cq 26)))
 have HY:=lH (HZ.out.since ((Since.refl _).alloc (.cells Cq 26)))
 clear HZ
 rw [hCq] at hp hr HS HX HY
 clear hCq
 obtain ⟨_,m0,m1,m2,m3,m4,m5,m6⟩:=hb7 hp
 have p0:=hr_cell hr.out 0 _ rfl
 have p1:=hr_cell hr.out 1 _ rfl
 have p2:=hr_cell hr.out 2 _ rfl
 have p3:=hr_cell hr.out 3 _ rfl
 have p4:=hr_cell hr.out 4 _ rfl
 have p5:=hr_cell hr.out 5 _ rfl
 have p6:=hr_cell hr.out 6 _ rfl
 have c7:=copy_mk K k u m v e L (by omega)
 rcases par_no y with hE | hE
 · obtain rfl:E2 = 0:=by rw [<- HR9.out] at hE; exact hE
   obtain ⟨hy1,hy2⟩:=par_ok hE
   rw [<- HR9.out] at hy1 hy2
   have hsz:=cand_size hy2
   have hl9:y.data.toList.length = y.size:=rfl
   have h9:=HY9.out
   dsimp only at hsz
   have c6:=text_mk K2 k2 u2 v2 x2 e2 L2 (by omega) ⟨by omega,by omega,by omega,by omega⟩
   rw [show textV K2 k2 L2 u2 v2 x2 e2 = y from hy1] at c6
   have q1:(y.toList == y.toList) = true:=beq_self_eq_true _
   clear hE hy1 hy2 hsz hl9 h9
   go_wp2_with fail
   refine c6.calls0 hp.out.tabs HY.out ?_
   clear m0 m1 m2 m3 m4 m5 m6 p0 p1 p2 p3 p4 p5 p6
   intro w7 hq
   replace hp:=lH (hp.out.step hq)
   replace HS:=lH (HS.out.step hq)
   replace HX:=lH (HX.out.since hq)
   clear hq hr HY
   obtain ⟨_,m0,m1,m2,m3,m4,m5,m6⟩:=hb7 hp
   go_wp2_with fail
   refine (c7 w7 _ HX.out).mono ?_
   clear m0 m1 m2 m3 m4 m5 m6
   rintro _ w8 ⟨yc,rfl,ho,hq⟩
   have hWlt:=hp.out.lg
   replace hp:=lH (hp.out.step hq)
   replace HS:=lH (HS.out.step hq)
   replace HX:=lH (HX.out.since hq)
   obtain ⟨Ac,cc,rfl,-⟩:=Atf.own_slice ho
   obtain ⟨n8,hn8⟩:∃ n,n = L.length:=⟨_,rfl⟩
   rw [<- hn8] at ho ⊢
   have HN8:=lH hn8
   clear hn8
   obtain ⟨Cc,hCc⟩:∃ C:Array Value,C = #[.int .i64 K,.string k,.slice Ac n8 cc,.string u,.string m,.string v,.string e]:=⟨_,rfl⟩
   have hr:Hid (HR w8 w8.heap.size Cc 26 (w8.alloc (.cells Cc 26))):=lH ⟨heap_alloc_new w8 _⟩
   replace hp:=lH (hp.out.step ((Below.refl _ w8).alloc (Nat.le_refl _) (.cells Cc 26)))
   replace HS:=lH (HS.out.alloc (.cells Cc 26))
   replace HX:=lH (HX.out.since ((Since.refl _).alloc (.cells Cc 26)))
   have hlt:=ho.lt
   have HO:Hid ((w8.alloc (.cells Cc 26)).ownsRow (w.heap.size + 1) 38 2 (.slice Ac n8 cc) n8 (L.flatMap ac)):=lH (own_base (ho.alloc _) (by omega))
   have HNE:Hid ((Value.slice Ac n8 cc).ownBlock ≠ some w8.heap.size):=lH (fun e => by have:=hlt _ e; omega)
   rw [hCc] at hp hr HS HX HO
   clear hCc hq ho hWlt hlt
   obtain ⟨_,m0,m1,m2,m3,m4,m5,m6⟩:=hb7 hp
   have p2:=hr_cell hr.out 2 _ rfl
   go_wp2_with fail
   obtain ⟨gq,hgq⟩:∃ g,g = w8.heap.size:=⟨_,rfl⟩
   rw [<- hgq] at hr HNE ⊢
   generalize w8.alloc (.cells #[.int .i64 K,.string k,.slice Ac n8 cc,.string u,.string m,.string v,.string e] 26) = w9 at hp HS HX HO hr m0 m1 m2 m3 m4 m5 m6 p2 ⊢
   clear m0 m1 m2 m3 m4 m5 m6 p2 hp HX hgq
   obtain ⟨w00,hw00⟩:∃ W,W = w.alloc (.cells #[.int .i64 K,.string k,.slice A n q,.string u,.string m,.string v,.string e] 26):=⟨_,rfl⟩
   rw [<- hw00] at HP0 HX0 HS
   have hz00:w00.heap.size = w.heap.size + 1:=by rw [hw00]; simp
   rw [<- hz00] at HO
   clear hw00
   go_loopw [11] (fun i wr => ∃ (j:Nat) (X:List Value),j <= n8 /\ i = .int .i64 (j:Int) /\ Hid (wr.ownsRow w00.heap.size 38 2 (.slice Ac n8 cc) n8 X) /\ Hid (HR w8 gq #[.int .i64 K,.string k,.slice Ac n8 cc,.string u,.string m,.string v,.string e] 26 wr) /\ Hid (Since w00 wr)) (fun i _ => n8 - (intOf i).toNat)
   case atStart => exact ⟨0,_,by omega,rfl,HO,hr,HS⟩
   case round =>
     clear HO hr HS
     obtain ⟨j,X,hj,rfl,HO,hr,HS⟩:=hrel
     have p2:=hr_cell hr.out 2 _ rfl
     by_cases hlt:j < n8
     · obtain ⟨hXl,hX2⟩:=HO.out
       rcases hX2 with ⟨e1,e2⟩ | ⟨gc,cap,cur,hv,hgb,hrow,hnc,hcm,hcs,htk⟩
       · omega
       cases hv
       have hg9:HR w8 gc cur 38 wr:=⟨hrow⟩
       have hne9:gq ≠ gc:=fun e9 => HNE.out (by rw [e9]; rfl)
       have kk:wr.cell? ⟨gc,j * 2,none⟩ = some (cur[j * 2]'(by omega)):=hr_cell hg9 (j * 2) _ (Array.getElem?_eq_getElem (by omega))
       have ff:=hr_free hg9 (j * 2)
       have HS2:=lH (since_cell HS.out hgb (j * 2) (.int .i64 (-7)))
       have hr2:=lH (hr_low hr.out hg9 hne9 (j * 2) (.int .i64 (-7)))
       obtain ⟨X2,ho2⟩:=own_store HO.out (j * 2) (.int .i64 (-7))
       have HO2:=lH ho2
       have i1:(0:Int) <= (j:Int):=by omega
       have i2:(j:Int) < (n8:Int):=by omega
       generalize cur[j * 2]'(by omega) = vv at kk
       have i3:n8 <= 40:=by have:=HN8.out; omega
       clear hXl hrow hnc hcm hcs htk hg9 hne9 ho2 hgb
       go_wp2_with fail
       go_roundw
       case rel => exact ⟨j + 1,X2,by omega,by go_num,HO2,hr2,HS2⟩
       case measure => simp [intOf]; omega
     · obtain rfl:n8 = j:=by omega
       go_wp2_with fail
       clear p2 hr HO
       go_loopw [12] (fun i wr => ∃ (j:Nat),j <= n /\ i = .int .i64 (j:Int) /\ Hid (Since w00 wr)) (fun i _ => n - (intOf i).toNat)
       case atStart => exact ⟨0,by omega,rfl,HS⟩
       case round =>
         clear HS
         obtain ⟨j,hj,rfl,HS⟩:=hrel
         have hp:=lH (HP0.out.step HS.out)
         obtain ⟨_,m0,m1,m2,m3,m4,m5,m6⟩:=hb7 hp
         by_cases hlt:j < n
         · have HX:=HX0.out.since HS.out
           have hnL:n = L.length:=by
             obtain ⟨A',c',e9,-,-⟩:=HX.slice
             exact (Value.slice.inj e9).2.1
           obtain ⟨b,o,c',hv,g1,g2,g3,g4⟩:=HX.form (by omega)
           obtain ⟨e1,-,e3⟩:=Value.slice.inj hv
           subst e1 e3
           obtain ⟨⟨tg,sv⟩,hs⟩:∃ z,L[j]? = some z:=⟨L[j]'(by omega),List.getElem?_eq_getElem _⟩
           obtain ⟨a0,a1⟩:=g4 j _ hs
           have i1:(0:Int) <= (j:Int):=by omega
           have i2:(j:Int) < (n:Int):=by omega
           have i3:n <= 40:=by omega
           clear hs g4 g1 g2 g3 HX hnL hv
           by_cases ht:tg = -7
           · have q1:(tg == -7) = true:=by rw [ht]; rfl
             clear ht
             go_wp2_with fail
             refine c9.calls0 hp.out.tabs ?_
             intro wB hq
             replace HS:=lH (HS.out.step hq)
             clear hq m0 m1 m2 m3 m4 m5 m6 a0 a1
             go_wp2_with fail
             go_ret
             exact ⟨rfl,HP0.out.since.step HS.out⟩
           · have q1:(tg == -7) = false:=beq_eq_false_iff_ne.2 ht
             clear ht
             go_wp2_with fail
             go_roundw
             case rel => exact ⟨j + 1,by omega,by go_num,HS⟩
             case measure => simp [intOf]; omega
         · obtain rfl:n = j:=by omega
           go_wp2_with fail
           refine c1.calls0 hp.out.tabs (HX0.out.since HS.out) ?_
           clear m0 m1 m2 m3 m4 m5 m6
           intro wA hq
           replace hp:=lH (hp.out.step hq)
           replace HS:=lH (HS.out.step hq)
           clear hq
           go_wp2_with fail
           refine c9.calls0 hp.out.tabs ?_
           intro wB hq
           replace HS:=lH (HS.out.step hq)
           clear hq
           go_wp2_with fail
           go_ret
           exact ⟨rfl,HP0.out.since.step HS.out⟩
 · obtain rfl:E2 = 5:=by rw [<- HR9.out] at hE; exact (Prod.mk.inj hE).2
   clear hE
   go_wp2_with fail
   clear p0 p1 p2 p3 p4 p5 p6 hr HY
   generalize w6.alloc (.cells #[.int .i64 K2,.string k2,.slice A4 n4 q4,.string u2,.string v2,.string x2,.string e2] 26) = w7 at hp HS HX m0 m1 m2 m3 m4 m5 m6 ⊢
   refine (c7 w7 _ HX.out).mono ?_
   clear m0 m1 m2 m3 m4 m5 m6
   rintro _ w8 ⟨yc,rfl,ho,hq⟩
   have hWlt:=hp.out.lg
   replace hp:=lH (hp.out.step hq)
   replace HS:=lH (HS.out.step hq)
   replace HX:=lH (HX.out.since hq)
   obtain ⟨Ac,cc,rfl,-⟩:=Atf.own_slice ho
   obtain ⟨n8,hn8⟩:∃ n,n = L.length:=⟨_,rfl⟩
   rw [<- hn8] at ho ⊢
   have HN8:=lH hn8
   clear hn8
   obtain ⟨Cc,hCc⟩:∃ C:Array Value,C = #[.int .i64 K,.string k,.slice Ac n8 cc,.string u,.string m,.string v,.string e]:=⟨_,rfl⟩
   have hr:Hid (HR w8 w8.heap.size Cc 26 (w8.alloc (.cells Cc 26))):=lH ⟨heap_alloc_new w8 _⟩
   replace hp:=lH (hp.out.step ((Below.refl _ w8).alloc (Nat.le_refl _) (.cells Cc 26)))
   replace HS:=lH (HS.out.alloc (.cells Cc 26))
   replace HX:=lH (HX.out.since ((Since.refl _).alloc (.cells Cc 26)))
   have hlt:=ho.lt
   have HO:Hid ((w8.alloc (.cells Cc 26)).ownsRow (w.heap.size + 1) 38 2 (.slice Ac n8 cc) n8 (L.flatMap ac)):=lH (own_base (ho.alloc _) (by omega))
   have HNE:Hid ((Value.slice Ac n8 cc).ownBlock ≠ some w8.heap.size):=lH (fun e => by have:=hlt _ e; omega)
   rw [hCc] at hp hr HS HX HO
   clear hCc hq ho hWlt hlt
   obtain ⟨_,m0,m1,m2,m3,m4,m5,m6⟩:=hb7 hp
   have p2:=hr_cell hr.out 2 _ rfl
   go_wp2_with fail
   obtain ⟨gq,hgq⟩:∃ g,g = w8.heap.size:=⟨_,rfl⟩
   rw [<- hgq] at hr HNE ⊢
   generalize w8.alloc (.cells #[.int .i64 K,.string k,.slice Ac n8 cc,.string u,.string m,.string v,.string e] 26) = w9 at hp HS HX HO hr m0 m1 m2 m3 m4 m5 m6 p2 ⊢
   clear m0 m1 m2 m3 m4 m5 m6 p2 hp HX hgq
   obtain ⟨w00,hw00⟩:∃ W,W = w.alloc (.cells #[.int .i64 K,.string k,.slice A n q,.string u,.string m,.string v,.string e] 26):=⟨_,rfl⟩
   rw [<- hw00] at HP0 HX0 HS
   have hz00:w00.heap.size = w.heap.size + 1:=by rw [hw00]; simp
   rw [<- hz00] at HO
   clear hw00
   go_loopw [11] (fun i wr => ∃ (j:Nat) (X:List Value),j <= n8 /\ i = .int .i64 (j:Int) /\ Hid (wr.ownsRow w00.heap.size 38 2 (.slice Ac n8 cc) n8 X) /\ Hid (HR w8 gq #[.int .i64 K,.string k,.slice Ac n8 cc,.string u,.string m,.string v,.string e] 26 wr) /\ Hid (Since w00 wr)) (fun i _ => n8 - (intOf i).toNat)
   case atStart => exact ⟨0,_,by omega,rfl,HO,hr,HS⟩
   case round =>
     clear HO hr HS
     obtain ⟨j,X,hj,rfl,HO,hr,HS⟩:=hrel
     have p2:=hr_cell hr.out 2 _ rfl
     by_cases hlt:j < n8
     · obtain ⟨hXl,hX2⟩:=HO.out
       rcases hX2 with ⟨e1,e2⟩ | ⟨gc,cap,cur,hv,hgb,hrow,hnc,hcm,hcs,htk⟩
       · omega
       cases hv
       have hg9:HR w8 gc cur 38 wr:=⟨hrow⟩
       have hne9:gq ≠ gc:=fun e9 => HNE.out (by rw [e9]; rfl)
       have kk:wr.cell? ⟨gc,j * 2,none⟩ = some (cur[j * 2]'(by omega)):=hr_cell hg9 (j * 2) _ (Array.getElem?_eq_getElem (by omega))
       have ff:=hr_free hg9 (j * 2)
       have HS2:=lH (since_cell HS.out hgb (j * 2) (.int .i64 (-7)))
       have hr2:=lH (hr_low hr.out hg9 hne9 (j * 2) (.int .i64 (-7)))
       obtain ⟨X2,ho2⟩:=own_store HO.out (j * 2) (.int .i64 (-7))
       have HO2:=lH ho2
       have i1:(0:Int) <= (j:Int):=by omega
       have i2:(j:Int) < (n8:Int):=by omega
       generalize cur[j * 2]'(by omega) = vv at kk
       have i3:n8 <= 40:=by have:=HN8.out; omega
       clear hXl hrow hnc hcm hcs htk hg9 hne9 ho2 hgb
       go_wp2_with fail
       go_roundw
       case rel => exact ⟨j + 1,X2,by omega,by go_num,HO2,hr2,HS2⟩
       case measure => simp [intOf]; omega
     · obtain rfl:n8 = j:=by omega
       go_wp2_with fail
       clear p2 hr HO
       go_loopw [12] (fun i wr => ∃ (j:Nat),j <= n /\ i = .int .i64 (j:Int) /\ Hid (Since w00 wr)) (fun i _ => n - (intOf i).toNat)
       case atStart => exact ⟨0,by omega,rfl,HS⟩
       case round =>
         clear HS
         obtain ⟨j,hj,rfl,HS⟩:=hrel
         have hp:=lH (HP0.out.step HS.out)
         obtain ⟨_,m0,m1,m2,m3,m4,m5,m6⟩:=hb7 hp
         by_cases hlt:j < n
         · have HX:=HX0.out.since HS.out
           have hnL:n = L.length:=by
             obtain ⟨A',c',e9,-,-⟩:=HX.slice
             exact (Value.slice.inj e9).2.1
           obtain ⟨b,o,c',hv,g1,g2,g3,g4⟩:=HX.form (by omega)
           obtain ⟨e1,-,e3⟩:=Value.slice.inj hv
           subst e1 e3
           obtain ⟨⟨tg,sv⟩,hs⟩:∃ z,L[j]? = some z:=⟨L[j]'(by omega),List.getElem?_eq_getElem _⟩
           obtain ⟨a0,a1⟩:=g4 j _ hs
           have i1:(0:Int) <= (j:Int):=by omega
           have i2:(j:Int) < (n:Int):=by omega
           have i3:n <= 40:=by omega
           clear hs g4 g1 g2 g3 HX hnL hv
           by_cases ht:tg = -7
           · have q1:(tg == -7) = true:=by rw [ht]; rfl
             clear ht
             go_wp2_with fail
             refine c9.calls0 hp.out.tabs ?_
             intro wB hq
             replace HS:=lH (HS.out.step hq)
             clear hq m0 m1 m2 m3 m4 m5 m6 a0 a1
             go_wp2_with fail
             go_ret
             exact ⟨rfl,HP0.out.since.step HS.out⟩
           · have q1:(tg == -7) = false:=beq_eq_false_iff_ne.2 ht
             clear ht
             go_wp2_with fail
             go_roundw
             case rel => exact ⟨j + 1,by omega,by go_num,HS⟩
             case measure => simp [intOf]; omega
         · obtain rfl:n = j:=by omega
           go_wp2_with fail
           refine c1.calls0 hp.out.tabs (HX0.out.since HS.out) ?_
           clear m0 m1 m2 m3 m4 m5 m6
           intro wA hq
           replace hp:=lH (hp.out.step hq)
           replace HS:=lH (HS.out.step hq)
           clear hq
           go_wp2_with fail
           refine c9.calls0 hp.out.tabs ?_
           intro wB hq
           replace HS:=lH (HS.out.step hq)
           clear hq
           go_wp2_with fail
           go_ret
           exact ⟨rfl,HP0.out.since.step HS.out⟩
theorem par_nil:parV ⟨#[]⟩ = (noCd,5):=by
 unfold parV
 rw [show candP (⟨#[]⟩:ByteArray).data.toList = none by decide +kernel]
theorem walk (w:World) (K:Int) (k:ByteArray) (A:Option Addr) (n q:Nat) (L:List A2) (u m v e y:ByteArray) (_f0:(Lit.int .i64 K).wf = true) (_f1:k.size <= maxLen) (hx:AttsS w (.slice A n q) L) (_f2:n = L.length) (_f3:∀ p ∈ L,(Lit.int .i64 p.1).wf = true /\ p.2.size <= maxLen)
   (_f4:u.size <= maxLen) (_f5:m.size <= maxLen) (_f6:v.size <= maxLen) (_f7:e.size <= maxLen) (_f8:y.size <= maxLen) (hT:Tab2 w) :
   Calls Tryd.prog 4 #[.agg #[.int .i64 K,.string k,.slice A n q,.string u,.string m,.string v,.string e],.string y] w fun x w' => x = .returned (.bool true) /\ Below w.heap.size w w':=by
 have c0:=plain_rec K k u m v e L
 cases hb:plainB k u m v e L with
 | false => rw [hb] at c0; exact big_1 w K k A n q L u m v e y hx c0 hT
 | true =>
   rw [hb] at c0
   by_cases l1:1500 < y.size
   · exact big_2 w K k A n q L u m v e y hx l1 c0 hT
   obtain ⟨h1,h2,h3⟩:=plain_small hb
   obtain ⟨h4,h5⟩:=fewB_spec _ _ h2
   have h6:u.size <= 20 /\ m.size <= 20 /\ v.size <= 20 /\ e.size <= 20:=by
     unfold Plain.headB at h3
     simp only [Bool.and_eq_true,decide_eq_true_eq] at h3
     omega
   have c1:=text_mk K k u m v e L (by omega) ⟨by omega,by omega,by omega,by omega⟩
   have c3:=check_rec K k u m v e L (by omega) _ rfl
   have c2:=parse_k (textV K k L u m v e) (text_size u m v e h1 h5 h6)
   by_cases h0:recE K k L = 0
   · rw [h0] at c3
     rw [par_text u m v e h0] at c2
     refine core_1 w K k A n q L u m v e y hx (by omega) h4 c0 h0 _ rfl (str_ne_f (text_ne u m v e h0)) c1 c2 c3 hT
   · have hz:textV K k L u m v e = ⟨#[]⟩:=by unfold textV; rw [if_neg h0]
     rw [hz] at c1 c2
     rw [par_nil] at c2
     exact core_2 w K k A n q L u m v e y hx (by omega) h4 c0 _ rfl _ (beq_eq_false_iff_ne.2 h0) c1 c2 c3 hT
theorem own:ownKnob Tryd.prog.godebug = none:=by kernel_rfl
theorem laidOut:laidOutB Tryd.prog = true:=by kernel_rfl
def laidL : List (String × DataW Unit) := [("unicode/utf8.acceptRanges", Rows.laid_unicode_utf8_acceptRanges), ("claviger/curve.lines", Rows.laid_claviger_curve_lines), ("claviger/kind.lines", Rows.laid_claviger_kind_lines), ("unicode/utf8.first", Rows.laid_unicode_utf8_first)]
theorem lifted (os:Os) (started:os.Started) (H:Type) (enc:TypeId × Value -> H) :
   ReturnsInHanded {} Tryd.checked os 4 .any (fun w args => (Rows.recordBackSpec.pre enc Tryd.prog Tryd.f4 [] false w args /\ laidMetH Tryd.prog laidL w) /\ sizedMet enc Tryd.prog Tryd.f4 (OpenSpec.ofChange Rows.recordBackSpec) false w args)
     (Rows.recordBackSpec.post enc Tryd.prog Tryd.f4 false true false false):=by
 refine returnsInHanded_of_change_and (C:=Tryd.checked) (X:=fun w _ => laidMetH Tryd.prog laidL w) (fun _ _ _ hh h => h.of_heap hh) own started (by kernel_rfl) Tryd.func4
   (ChangeSpec.witness_shaped (enc:=enc) (C:=Tryd.checked) (os:=os) (X:=fun w _ => laidMetH Tryd.prog laidL w) false (World.laidAll Tryd.prog os laidL) #[.agg #[.int .i64 0,.string ⟨#[]⟩,.slice none 0 0,.string ⟨#[]⟩,.string ⟨#[]⟩,.string ⟨#[]⟩,.string ⟨#[]⟩],.string ⟨#[]⟩] 8 (World.laidAll_os _ _ _) (World.shaped_of_ZipB (by kernel_rfl) (by kernel_rfl)) (by kernel_rfl) (by kernel_rfl) (by kernel_rfl) (by rw [MakeChecks.laidMetH_plain _ _ _ (by kernel_rfl)]; exact laidMet_laidAll _ (by kernel_rfl) (by kernel_rfl))) ?_
 intro W base args ds gs before hval0 hW _ _ hL _
 have hval:∀ (j:Nat) t v,Tryd.f4.params[j]? = some t -> args[j]? = some v -> Value.okWide Tryd.prog W .any base t v:=hval0
 have hW':=hW
 obtain ⟨p,q,hA0,hV,rfl,hfz,hnd⟩:=hW
 have hA:DataW.TrodAll enc Tryd.prog W 0 (fun _ => true) true Tryd.f4.params.toList args.toList ds p:=hA0
 rw [Tryd.params4] at hA hval
 obtain ⟨v0,vs0,d0,ds0,p0,q0,hargs,rfl,rfl,h0,r0⟩:=trodAll_cons hA
 obtain ⟨v1,vs1,d1,ds1,p1,q1,rfl,rfl,rfl,h1,r1⟩:=trodAll_cons r0
 obtain ⟨rfl,rfl,rfl⟩:=trodAll_nil r1
 obtain rfl:args = #[v0,v1]:=by cases args; simp_all
 obtain ⟨rfl,rfl⟩:=trodVars_none hV
 have h0k:=h0
 have hlt0:∀ x ∈ p0,x.block < W.heap.size:=fun x hx => by simpa using hW'.lt x (by simp [hx])
 obtain ⟨a0_K,a0_k,a0_A,a0_n,a0_q,a0_L,a0_u,a0_m,a0_v,a0_e,rfl,f0_0,f0_1,f0_2,f0_3,f0_4,f0_5,f0_6,f0_7,f0_8⟩:=Rec.record_arg (hval 0 26 v0 rfl rfl) h0 hlt0
 obtain ⟨a1,rfl,rfl,rfl,w1⟩:=Go.ChangeMaps.open_string Tryd.underlying9 (hval 1 9 v1 rfl rfl) h1
 clear hA0 hval0
 simp only [List.append_nil] at hW'
 refine (walk W a0_K a0_k a0_A a0_n a0_q a0_L a0_u a0_m a0_v a0_e a1 f0_0 f0_1 f0_2 f0_3 f0_4 f0_5 f0_6 f0_7 f0_8 w1 (Kind.tabs4_of hL)).mono fun e W' ⟨he,hg⟩ => ?_
 subst he
 exact ⟨_,rfl,_,_,_,_,_,[],hW',(trodAll_cons_mk (shut_bool Tryd.underlying4 _) trodAll_mk0),(trodAll_cons_mk (Below.trod laidOut (by kernel_rfl) (of_decide_eq_true (by kernel_rfl)) h0k hg hlt0) (trodAll_cons_mk (Go.ChangeMaps.shut_string Tryd.underlying9 w1) trodAll_mk0)),rfl,hg.frame _,fun h => by cases h⟩
theorem over:Rows.recordBackRow.holds Tryd.pinned (OpenSpec.ofChange Rows.recordBackSpec) :=
 OpenClaim.holds_of_wide 4 Tryd.f4 rfl rfl rfl rfl rfl rfl rfl ⟨rfl,rfl,rfl,rfl,rfl⟩ rfl rfl rfl rfl rfl (by kernel_rfl) Tryd.func4 (by kernel_rfl)
   (of_decide_eq_true (by kernel_rfl)) (by unfold Func.isWrapper; first | (rw [if_pos (by decide +kernel)]; kernel_rfl) | (rw [if_neg (by decide +kernel)]; exact ⟨rfl,rfl⟩))
   (fun os started H enc _ => lifted os started H enc)
theorem proved:Rows.RecordBackCardSaid :=
 Claim7.holds_tied_plain_at .later [] [.data,.data,.data,.pinned] true Rows.recordBackCard.stood.harness false
   over (fun _ h => by cases h) (by kernel_rfl) (fun _ h => by cases h) recordBack_row_tie rfl ⟨rfl,rfl⟩ (by kernel_rfl) rfl
   (fun f fn hf hfn => by
     obtain rfl : f = 4 := Option.some.inj ((show Tryd.prog.funcNamed "claviger/clavigerlaw27.RecordBack" = some 4 by kernel_rfl).symm.trans hf) |>.symm
     obtain rfl:fn = Tryd.f4:=(Option.some.inj (Tryd.func4.symm.trans hfn)).symm
     exact ⟨by kernel_rfl,fun j t ht => by
       rw [Tryd.params4] at ht
       have hm:t ∈ [26,9]:=by simpa using Array.mem_of_getElem? ht
       have hall:([26,9].all fun u => !Tryd.prog.wantsStandIn u) = true:=by kernel_rfl
       exact (show Tryd.prog.wantsStandIn t = false by simpa using List.all_eq_true.1 hall t hm)⟩)
   (by kernel_rfl)
end Go.Proofs.YtfnmakelbijmkaaDoor.recordBack
