import Derived.Test.YtfnmakelbijmkaaGreatDoorRh52
set_option maxRecDepth 100000
namespace Go.Proofs.YtfnmakelbijmkaaGreatDoor
open Go.RowKit
namespace Rcd
open Att Kind Rec Atf Rw Flt Tlv
theorem rwith_k (K:Int) (k u m v e:ByteArray) (L:List A2) (hk:k.size <= 100000) (hm:L.length <= 900) (t:Int) (y:ByteArray):ChgR 8 L (fun x => #[rv K k u m v e x,.int .i64 t,.string y]) (chgV K k L (u,m,v,e) (setR L t y)) :=
 fun w x hT hx => rwith_c K k u m v e L (rcheck_rec K k u m v e L hk _ rfl) t y _ (set_tags L t y) (rset_mk L t y (by omega) _ rfl) w x hT trivial hx
theorem rwithout_k (K:Int) (k u m v e:ByteArray) (L:List A2) (hk:k.size <= 100000) (hm:L.length <= 900) (t:Int):ChgR 10 L (fun x => #[rv K k u m v e x,.int .i64 t]) (chgV K k L (u,m,v,e) (drpR L t)) :=
 fun w x hT hx => rwithout_c K k u m v e L (rcheck_rec K k u m v e L hk _ rfl) t _ (drp_tags L t) (rdrop_mk L t (by omega) _ rfl) w x hT trivial hx
set_option maxHeartbeats 8000000 in
theorem with_k (K:Int) (k u m v e:ByteArray) (L:List A2) (hk:k.size <= 100000) (hm:L.length <= 900) (t:Int) (y:ByteArray):ChgR 7 L (fun x => #[rv K k u m v e x,.int .i64 t,.string y]) (chgV K k L (u,m,v,e) (setR L t y)):=by
 intro w x hT hx
 obtain ⟨A,q,rfl,-,-⟩:=hx.slice
 have HTG:=lH (chg_tags K k L (u,m,v,e) _ (set_tags L t y))
 have c1:=chset_c K k u m v e L (check_rec K k u m v e L hk _ rfl) t y (w.heap.size + 1) (w.heap.size + 1 + 1) _ (set_tags L t y) (setclo t y L _ (set_mk L t y hm _ rfl) _ _)
 obtain ⟨R,hR⟩:∃ R,R = chgV K k L (u,m,v,e) (setR L t y):=⟨_,rfl⟩
 rw [<- hR] at c1 HTG ⊢
 clear hR
 obtain ⟨n,hn⟩:∃ n,n = L.length:=⟨_,rfl⟩
 rw [<- hn] at hx ⊢
 clear hn
 have z1:(w.alloc (.cells #[.int .i64 K,.string k,.slice A n q,.string u,.string m,.string v,.string e] 26)).heap.size = w.heap.size + 1:=by simp
 have z2:((w.alloc (.cells #[.int .i64 K,.string k,.slice A n q,.string u,.string m,.string v,.string e] 26)).alloc (.cells #[.int .i64 t] 3)).heap.size = w.heap.size + 1 + 1:=by simp
 have z3:(((w.alloc (.cells #[.int .i64 K,.string k,.slice A n q,.string u,.string m,.string v,.string e] 26)).alloc (.cells #[.int .i64 t] 3)).alloc (.cells #[.string y] 9)).heap.size = w.heap.size + 1 + 1 + 1:=by simp
 have hb:Hid (HR w w.heap.size #[.int .i64 K,.string k,.slice A n q,.string u,.string m,.string v,.string e] 26 ((((w.alloc (.cells #[.int .i64 K,.string k,.slice A n q,.string u,.string m,.string v,.string e] 26)).alloc (.cells #[.int .i64 t] 3)).alloc (.cells #[.string y] 9)).alloc (.cells Z7 26))):=lH (hr_old (hr_old (hr_old ⟨heap_alloc_new w _⟩ _) _) _)
 have hr:Hid (HR w (w.heap.size + 1 + 1 + 1) Z7 26 ((((w.alloc (.cells #[.int .i64 K,.string k,.slice A n q,.string u,.string m,.string v,.string e] 26)).alloc (.cells #[.int .i64 t] 3)).alloc (.cells #[.string y] 9)).alloc (.cells Z7 26))):=lH ⟨by rw [<- z3]; exact heap_alloc_new _ _⟩
 have HK:Hid (KSet (w.heap.size + 1) (w.heap.size + 1 + 1) t y ((((w.alloc (.cells #[.int .i64 K,.string k,.slice A n q,.string u,.string m,.string v,.string e] 26)).alloc (.cells #[.int .i64 t] 3)).alloc (.cells #[.string y] 9)).alloc (.cells Z7 26))):=lH (by
   have h1:HR w (w.heap.size + 1) #[.int .i64 t] 3 ((w.alloc (.cells #[.int .i64 K,.string k,.slice A n q,.string u,.string m,.string v,.string e] 26)).alloc (.cells #[.int .i64 t] 3)):=⟨by rw [<- z1]; exact heap_alloc_new _ _⟩
   have h2:HR w (w.heap.size + 1 + 1) #[.string y] 9 (((w.alloc (.cells #[.int .i64 K,.string k,.slice A n q,.string u,.string m,.string v,.string e] 26)).alloc (.cells #[.int .i64 t] 3)).alloc (.cells #[.string y] 9)):=⟨by rw [<- z2]; exact heap_alloc_new _ _⟩
   exact ⟨hr_cell (hr_old (hr_old h1 _) _) 0 _ rfl,hr_cell (hr_old h2 _) 0 _ rfl⟩)
 clear z1 z2 z3
 have HS:=lH (show Since w ((((w.alloc (.cells #[.int .i64 K,.string k,.slice A n q,.string u,.string m,.string v,.string e] 26)).alloc (.cells #[.int .i64 t] 3)).alloc (.cells #[.string y] 9)).alloc (.cells Z7 26)) from ((((Since.refl w).alloc _).alloc _).alloc _).alloc _)
 have HX:=lH (hx.since HS.out)
 have HT:=lH (Tab2.since hT HS.out)
 have m0:=hr_cell hb.out 0 _ rfl
 have m1:=hr_cell hb.out 1 _ rfl
 have m2:=hr_cell hb.out 2 _ rfl
 have m3:=hr_cell hb.out 3 _ rfl
 have m4:=hr_cell hb.out 4 _ rfl
 have m5:=hr_cell hb.out 5 _ rfl
 have m6:=hr_cell hb.out 6 _ rfl
 have C1:=lH c1
 unfold Z7 at hr HS HX HT HK hb m0 m1 m2 m3 m4 m5 m6
 clear hx hT c1 hb
 go_enter Tryz.func7,Tryz.ntmps7
 go_wp2_with fail
 refine (C1.out _ _ HT.out HK.out HX.out).mono ?_
 rintro _ w5 ⟨y3,rfl,hy,h5⟩
 replace hr:=lH (hr.out.step h5)
 replace HS:=lH (HS.out.step h5)
 clear h5 m0 m1 m2 m3 m4 m5 m6 HX HT HK C1
 obtain ⟨⟨K2,k2,L2,u2,m2,v2,e2⟩,C⟩:=R
 dsimp only at hy HTG ⊢
 obtain ⟨Ay,cy,rfl,-,-⟩:=hy.slice
 obtain ⟨ny,hny⟩:∃ n,n = L2.length:=⟨_,rfl⟩
 rw [<- hny] at hy ⊢
 have HY:=lH hy
 clear hy hny
 go_wp2_with (refine RwL.at_store (ty:=26) rfl ?_; refine wpList_store_row rfl 26 _ _ rfl (w.heap.size + 1 + 1 + 1) #[.int .i64 K2,.string k2,.slice Ay ny cy,.string u2,.string m2,.string v2,.string e2] (by rfl) (by rfl) _ _ hr.out.row (r7_info _ _ _ _ _ _ _) rfl (r7_one _ _ _ _ _ _ _ _ _) ?_)
 exact bodyPost_ret (v:=.tuple #[.agg #[.int .i64 K2,.string k2,.slice Ay ny cy,.string u2,.string m2,.string v2,.string e2],.int .i64 C]) (results_cell_tmp2 Tryz.results7 _ _ _ _ _ _ _ _ rfl rfl (setRow_heap _ _ _ _ _ _ hr.out.row) Tryz.underlying26 rfl (r7_info _ _ _ _ _ _ _)) rfl ⟨_,rfl,atts_far HY.out HTG.out hr.out _,below_setRow HS.out (by omega) _⟩
set_option maxHeartbeats 8000000 in
theorem without_k (K:Int) (k u m v e:ByteArray) (L:List A2) (hk:k.size <= 100000) (hm:L.length <= 900) (t:Int):ChgR 9 L (fun x => #[rv K k u m v e x,.int .i64 t]) (chgV K k L (u,m,v,e) (drpR L t)):=by
 intro w x hT hx
 obtain ⟨A,q,rfl,-,-⟩:=hx.slice
 have HTG:=lH (chg_tags K k L (u,m,v,e) _ (drp_tags L t))
 have c1:=chdrp_c K k u m v e L (check_rec K k u m v e L hk _ rfl) t (w.heap.size + 1) _ (drp_tags L t) (drpclo t L _ (drop_mk L t hm _ rfl) _)
 obtain ⟨R,hR⟩:∃ R,R = chgV K k L (u,m,v,e) (drpR L t):=⟨_,rfl⟩
 rw [<- hR] at c1 HTG ⊢
 clear hR
 obtain ⟨n,hn⟩:∃ n,n = L.length:=⟨_,rfl⟩
 rw [<- hn] at hx ⊢
 clear hn
 have z1:(w.alloc (.cells #[.int .i64 K,.string k,.slice A n q,.string u,.string m,.string v,.string e] 26)).heap.size = w.heap.size + 1:=by simp
 have z2:((w.alloc (.cells #[.int .i64 K,.string k,.slice A n q,.string u,.string m,.string v,.string e] 26)).alloc (.cells #[.int .i64 t] 3)).heap.size = w.heap.size + 1 + 1:=by simp
 have hb:Hid (HR w w.heap.size #[.int .i64 K,.string k,.slice A n q,.string u,.string m,.string v,.string e] 26 (((w.alloc (.cells #[.int .i64 K,.string k,.slice A n q,.string u,.string m,.string v,.string e] 26)).alloc (.cells #[.int .i64 t] 3)).alloc (.cells Z7 26))):=lH (hr_old (hr_old ⟨heap_alloc_new w _⟩ _) _)
 have hr:Hid (HR w (w.heap.size + 1 + 1) Z7 26 (((w.alloc (.cells #[.int .i64 K,.string k,.slice A n q,.string u,.string m,.string v,.string e] 26)).alloc (.cells #[.int .i64 t] 3)).alloc (.cells Z7 26))):=lH ⟨by rw [<- z2]; exact heap_alloc_new _ _⟩
 have HK:Hid (KDrp (w.heap.size + 1) t (((w.alloc (.cells #[.int .i64 K,.string k,.slice A n q,.string u,.string m,.string v,.string e] 26)).alloc (.cells #[.int .i64 t] 3)).alloc (.cells Z7 26))):=lH (by
   have h1:HR w (w.heap.size + 1) #[.int .i64 t] 3 ((w.alloc (.cells #[.int .i64 K,.string k,.slice A n q,.string u,.string m,.string v,.string e] 26)).alloc (.cells #[.int .i64 t] 3)):=⟨by rw [<- z1]; exact heap_alloc_new _ _⟩
   exact hr_cell (hr_old h1 _) 0 _ rfl)
 clear z1 z2
 have HS:=lH (show Since w (((w.alloc (.cells #[.int .i64 K,.string k,.slice A n q,.string u,.string m,.string v,.string e] 26)).alloc (.cells #[.int .i64 t] 3)).alloc (.cells Z7 26)) from (((Since.refl w).alloc _).alloc _).alloc _)
 have HX:=lH (hx.since HS.out)
 have HT:=lH (Tab2.since hT HS.out)
 have m0:=hr_cell hb.out 0 _ rfl
 have m1:=hr_cell hb.out 1 _ rfl
 have m2:=hr_cell hb.out 2 _ rfl
 have m3:=hr_cell hb.out 3 _ rfl
 have m4:=hr_cell hb.out 4 _ rfl
 have m5:=hr_cell hb.out 5 _ rfl
 have m6:=hr_cell hb.out 6 _ rfl
 have C1:=lH c1
 unfold Z7 at hr HS HX HT HK hb m0 m1 m2 m3 m4 m5 m6
 clear hx hT c1 hb
 go_enter Tryz.func9,Tryz.ntmps9
 go_wp2_with fail
 refine (C1.out _ _ HT.out HK.out HX.out).mono ?_
 rintro _ w5 ⟨y3,rfl,hy,h5⟩
 replace hr:=lH (hr.out.step h5)
 replace HS:=lH (HS.out.step h5)
 clear h5 m0 m1 m2 m3 m4 m5 m6 HX HT HK C1
 obtain ⟨⟨K2,k2,L2,u2,m2,v2,e2⟩,C⟩:=R
 dsimp only at hy HTG ⊢
 obtain ⟨Ay,cy,rfl,-,-⟩:=hy.slice
 obtain ⟨ny,hny⟩:∃ n,n = L2.length:=⟨_,rfl⟩
 rw [<- hny] at hy ⊢
 have HY:=lH hy
 clear hy hny
 go_wp2_with (refine RwL.at_store (ty:=26) rfl ?_; refine wpList_store_row rfl 26 _ _ rfl (w.heap.size + 1 + 1) #[.int .i64 K2,.string k2,.slice Ay ny cy,.string u2,.string m2,.string v2,.string e2] (by rfl) (by rfl) _ _ hr.out.row (r7_info _ _ _ _ _ _ _) rfl (r7_one _ _ _ _ _ _ _ _ _) ?_)
 exact bodyPost_ret (v:=.tuple #[.agg #[.int .i64 K2,.string k2,.slice Ay ny cy,.string u2,.string m2,.string v2,.string e2],.int .i64 C]) (results_cell_tmp2 Tryz.results9 _ _ _ _ _ _ _ _ rfl rfl (setRow_heap _ _ _ _ _ _ hr.out.row) Tryz.underlying26 rfl (r7_info _ _ _ _ _ _ _)) rfl ⟨_,rfl,atts_far HY.out HTG.out hr.out _,below_setRow HS.out (by omega) _⟩
def SmeR (f:Nat) (K:Int) (k u m v e:ByteArray) (L:List A2) (K':Int) (k' u' m' v' e':ByteArray) (L':List A2) (B:Bool):Prop:=∀ w x y,AttsS w x L -> AttsS w y L' -> Calls Tryz.prog f #[rv K k u m v e x,rv K' k' u' m' v' e' y] w fun z w' => z = .returned (.bool B) /\ Since w w'
theorem SmeR.calls0 {f:Nat} {K:Int} {k u m v e:ByteArray} {L:List A2} {K':Int} {k' u' m' v' e':ByteArray} {L':List A2} {B:Bool} (h:SmeR f K k u m v e L K' k' u' m' v' e' L' B) {w:World} {x y:Value} (hx:AttsS w x L) (hy:AttsS w y L') {R:Ending -> World -> Prop} (j:∀ w',Since w w' -> R (.returned (.bool B)) w'):Calls Tryz.prog f #[rv K k u m v e x,rv K' k' u' m' v' e' y] w R :=
 (h w x y hx hy).mono fun _ _ ⟨he,hb⟩ => by subst he; exact j _ hb
set_option maxHeartbeats 4000000 in
theorem sm_1 (K:Int) (k u m v e:ByteArray) (L:List A2) (K':Int) (k' u' m' v' e':ByteArray) (L':List A2) (t1:(K == K') = false):SmeR 12 K k u m v e L K' k' u' m' v' e' L' false:=by
 (try have b1:(K != K') = !true:=by rw [bne,t1])
 (try have b1:(K != K') = !false:=by rw [bne,t1])
 (try have b2:(k.toList != k'.toList) = !true:=by rw [bne,t2])
 (try have b2:(k.toList != k'.toList) = !false:=by rw [bne,t2])
 (try have b3:(u.toList != u'.toList) = !true:=by rw [bne,t3])
 (try have b3:(u.toList != u'.toList) = !false:=by rw [bne,t3])
 (try have b4:(m.toList != m'.toList) = !true:=by rw [bne,t4])
 (try have b4:(m.toList != m'.toList) = !false:=by rw [bne,t4])
 (try have b5:(v.toList != v'.toList) = !true:=by rw [bne,t5])
 (try have b5:(v.toList != v'.toList) = !false:=by rw [bne,t5])
 (try have b6:(e.toList != e'.toList) = !true:=by rw [bne,t6])
 (try have b6:(e.toList != e'.toList) = !false:=by rw [bne,t6])
 (try simp only [Bool.not_false] at b1)
 (try simp only [Bool.not_true,Bool.not_false] at b2)
 (try simp only [Bool.not_true,Bool.not_false] at b3)
 (try simp only [Bool.not_true,Bool.not_false] at b4)
 (try simp only [Bool.not_true,Bool.not_false] at b5)
 (try simp only [Bool.not_true,Bool.not_false] at b6)
 intro w x y hx hy
 obtain ⟨A,q,rfl,-,-⟩:=hx.slice
 obtain ⟨B,r,rfl,-,-⟩:=hy.slice
 obtain ⟨n,hn⟩:∃ n,n = L.length:=⟨_,rfl⟩
 obtain ⟨n',hn'⟩:∃ n,n = L'.length:=⟨_,rfl⟩
 rw [<- hn] at hx ⊢
 rw [<- hn'] at hy ⊢
 have HN:=lH hn
 have HN':=lH hn'
 have ha:=lH (hb_new w KT trivial #[.int .i64 K,.string k,.slice A n q,.string u,.string m,.string v,.string e] 26)
 have hb:=lH (hb_new (w.alloc (.cells #[.int .i64 K,.string k,.slice A n q,.string u,.string m,.string v,.string e] 26)) KT trivial #[.int .i64 K',.string k',.slice B n' r,.string u',.string m',.string v',.string e'] 26)
 replace ha:=lH (ha.out.step ((Below.refl _ (w.alloc (.cells #[.int .i64 K,.string k,.slice A n q,.string u,.string m,.string v,.string e] 26))).alloc (Nat.le_refl _) (.cells #[.int .i64 K',.string k',.slice B n' r,.string u',.string m',.string v',.string e'] 26)))
 have HX:=lH (hx.since ha.out.since)
 have HY:=lH (hy.since ha.out.since)
 have HS:=lH ha.out.since
 obtain ⟨_,m0,m1,m2,m3,m4,m5,m6⟩:=hb7 ha
 rw [show (w.alloc (.cells #[.int .i64 K,.string k,.slice A n q,.string u,.string m,.string v,.string e] 26)).heap.size = w.heap.size + 1 by simp] at hb
 obtain ⟨_,n0,n1,n2,n3,n4,n5,n6⟩:=hb7 hb
 clear hx hy hn hn'
 go_enter Tryz.func12,Tryz.ntmps12
 clear ha hb HX HY
 go_wp2_with fail
 all_goals
   go_ret
   exact ⟨rfl,HS.out⟩
set_option maxHeartbeats 4000000 in
theorem sm_2 (K:Int) (k u m v e:ByteArray) (L:List A2) (K':Int) (k' u' m' v' e':ByteArray) (L':List A2) (t1:(K == K') = true) (t2:(k.toList == k'.toList) = false):SmeR 12 K k u m v e L K' k' u' m' v' e' L' false:=by
 (try have b1:(K != K') = !true:=by rw [bne,t1])
 (try have b1:(K != K') = !false:=by rw [bne,t1])
 (try have b2:(k.toList != k'.toList) = !true:=by rw [bne,t2])
 (try have b2:(k.toList != k'.toList) = !false:=by rw [bne,t2])
 (try have b3:(u.toList != u'.toList) = !true:=by rw [bne,t3])
 (try have b3:(u.toList != u'.toList) = !false:=by rw [bne,t3])
 (try have b4:(m.toList != m'.toList) = !true:=by rw [bne,t4])
 (try have b4:(m.toList != m'.toList) = !false:=by rw [bne,t4])
 (try have b5:(v.toList != v'.toList) = !true:=by rw [bne,t5])
 (try have b5:(v.toList != v'.toList) = !false:=by rw [bne,t5])
 (try have b6:(e.toList != e'.toList) = !true:=by rw [bne,t6])
 (try have b6:(e.toList != e'.toList) = !false:=by rw [bne,t6])
 (try simp only [Bool.not_true] at b1)
 (try simp only [Bool.not_false] at b2)
 (try simp only [Bool.not_true,Bool.not_false] at b3)
 (try simp only [Bool.not_true,Bool.not_false] at b4)
 (try simp only [Bool.not_true,Bool.not_false] at b5)
 (try simp only [Bool.not_true,Bool.not_false] at b6)
 intro w x y hx hy
 obtain ⟨A,q,rfl,-,-⟩:=hx.slice
 obtain ⟨B,r,rfl,-,-⟩:=hy.slice
 obtain ⟨n,hn⟩:∃ n,n = L.length:=⟨_,rfl⟩
 obtain ⟨n',hn'⟩:∃ n,n = L'.length:=⟨_,rfl⟩
 rw [<- hn] at hx ⊢
 rw [<- hn'] at hy ⊢
 have HN:=lH hn
 have HN':=lH hn'
 have ha:=lH (hb_new w KT trivial #[.int .i64 K,.string k,.slice A n q,.string u,.string m,.string v,.string e] 26)
 have hb:=lH (hb_new (w.alloc (.cells #[.int .i64 K,.string k,.slice A n q,.string u,.string m,.string v,.string e] 26)) KT trivial #[.int .i64 K',.string k',.slice B n' r,.string u',.string m',.string v',.string e'] 26)
 replace ha:=lH (ha.out.step ((Below.refl _ (w.alloc (.cells #[.int .i64 K,.string k,.slice A n q,.string u,.string m,.string v,.string e] 26))).alloc (Nat.le_refl _) (.cells #[.int .i64 K',.string k',.slice B n' r,.string u',.string m',.string v',.string e'] 26)))
 have HX:=lH (hx.since ha.out.since)
 have HY:=lH (hy.since ha.out.since)
 have HS:=lH ha.out.since
 obtain ⟨_,m0,m1,m2,m3,m4,m5,m6⟩:=hb7 ha
 rw [show (w.alloc (.cells #[.int .i64 K,.string k,.slice A n q,.string u,.string m,.string v,.string e] 26)).heap.size = w.heap.size + 1 by simp] at hb
 obtain ⟨_,n0,n1,n2,n3,n4,n5,n6⟩:=hb7 hb
 clear hx hy hn hn'
 go_enter Tryz.func12,Tryz.ntmps12
 clear ha hb HX HY
 go_wp2_with fail
 all_goals
   go_ret
   exact ⟨rfl,HS.out⟩
set_option maxHeartbeats 4000000 in
theorem sm_3 (K:Int) (k u m v e:ByteArray) (L:List A2) (K':Int) (k' u' m' v' e':ByteArray) (L':List A2) (t1:(K == K') = true) (t2:(k.toList == k'.toList) = true) (t3:(u.toList == u'.toList) = false):SmeR 12 K k u m v e L K' k' u' m' v' e' L' false:=by
 (try have b1:(K != K') = !true:=by rw [bne,t1])
 (try have b1:(K != K') = !false:=by rw [bne,t1])
 (try have b2:(k.toList != k'.toList) = !true:=by rw [bne,t2])
 (try have b2:(k.toList != k'.toList) = !false:=by rw [bne,t2])
 (try have b3:(u.toList != u'.toList) = !true:=by rw [bne,t3])
 (try have b3:(u.toList != u'.toList) = !false:=by rw [bne,t3])
 (try have b4:(m.toList != m'.toList) = !true:=by rw [bne,t4])
 (try have b4:(m.toList != m'.toList) = !false:=by rw [bne,t4])
 (try have b5:(v.toList != v'.toList) = !true:=by rw [bne,t5])
 (try have b5:(v.toList != v'.toList) = !false:=by rw [bne,t5])
 (try have b6:(e.toList != e'.toList) = !true:=by rw [bne,t6])
 (try have b6:(e.toList != e'.toList) = !false:=by rw [bne,t6])
 (try simp only [Bool.not_true] at b1)
 (try simp only [Bool.not_true] at b2)
 (try simp only [Bool.not_false] at b3)
 (try simp only [Bool.not_true,Bool.not_false] at b4)
 (try simp only [Bool.not_true,Bool.not_false] at b5)
 (try simp only [Bool.not_true,Bool.not_false] at b6)
 intro w x y hx hy
 obtain ⟨A,q,rfl,-,-⟩:=hx.slice
 obtain ⟨B,r,rfl,-,-⟩:=hy.slice
 obtain ⟨n,hn⟩:∃ n,n = L.length:=⟨_,rfl⟩
 obtain ⟨n',hn'⟩:∃ n,n = L'.length:=⟨_,rfl⟩
 rw [<- hn] at hx ⊢
 rw [<- hn'] at hy ⊢
 have HN:=lH hn
 have HN':=lH hn'
 have ha:=lH (hb_new w KT trivial #[.int .i64 K,.string k,.slice A n q,.string u,.string m,.string v,.string e] 26)
 have hb:=lH (hb_new (w.alloc (.cells #[.int .i64 K,.string k,.slice A n q,.string u,.string m,.string v,.string e] 26)) KT trivial #[.int .i64 K',.string k',.slice B n' r,.string u',.string m',.string v',.string e'] 26)
 replace ha:=lH (ha.out.step ((Below.refl _ (w.alloc (.cells #[.int .i64 K,.string k,.slice A n q,.string u,.string m,.string v,.string e] 26))).alloc (Nat.le_refl _) (.cells #[.int .i64 K',.string k',.slice B n' r,.string u',.string m',.string v',.string e'] 26)))
 have HX:=lH (hx.since ha.out.since)
 have HY:=lH (hy.since ha.out.since)
 have HS:=lH ha.out.since
 obtain ⟨_,m0,m1,m2,m3,m4,m5,m6⟩:=hb7 ha
 rw [show (w.alloc (.cells #[.int .i64 K,.string k,.slice A n q,.string u,.string m,.string v,.string e] 26)).heap.size = w.heap.size + 1 by simp] at hb
 obtain ⟨_,n0,n1,n2,n3,n4,n5,n6⟩:=hb7 hb
 clear hx hy hn hn'
 go_enter Tryz.func12,Tryz.ntmps12
 clear ha hb HX HY
 go_wp2_with fail
 all_goals
   go_ret
   exact ⟨rfl,HS.out⟩
set_option maxHeartbeats 4000000 in
theorem sm_4 (K:Int) (k u m v e:ByteArray) (L:List A2) (K':Int) (k' u' m' v' e':ByteArray) (L':List A2) (t1:(K == K') = true) (t2:(k.toList == k'.toList) = true) (t3:(u.toList == u'.toList) = true) (t4:(m.toList == m'.toList) = false):SmeR 12 K k u m v e L K' k' u' m' v' e' L' false:=by
 (try have b1:(K != K') = !true:=by rw [bne,t1])
 (try have b1:(K != K') = !false:=by rw [bne,t1])
 (try have b2:(k.toList != k'.toList) = !true:=by rw [bne,t2])
 (try have b2:(k.toList != k'.toList) = !false:=by rw [bne,t2])
 (try have b3:(u.toList != u'.toList) = !true:=by rw [bne,t3])
 (try have b3:(u.toList != u'.toList) = !false:=by rw [bne,t3])
 (try have b4:(m.toList != m'.toList) = !true:=by rw [bne,t4])
 (try have b4:(m.toList != m'.toList) = !false:=by rw [bne,t4])
 (try have b5:(v.toList != v'.toList) = !true:=by rw [bne,t5])
 (try have b5:(v.toList != v'.toList) = !false:=by rw [bne,t5])
 (try have b6:(e.toList != e'.toList) = !true:=by rw [bne,t6])
 (try have b6:(e.toList != e'.toList) = !false:=by rw [bne,t6])
 (try simp only [Bool.not_true] at b1)
 (try simp only [Bool.not_true] at b2)
 (try simp only [Bool.not_true] at b3)
 (try simp only [Bool.not_false] at b4)
 (try simp only [Bool.not_true,Bool.not_false] at b5)
 (try simp only [Bool.not_true,Bool.not_false] at b6)
 intro w x y hx hy
 obtain ⟨A,q,rfl,-,-⟩:=hx.slice
 obtain ⟨B,r,rfl,-,-⟩:=hy.slice
 obtain ⟨n,hn⟩:∃ n,n = L.length:=⟨_,rfl⟩
 obtain ⟨n',hn'⟩:∃ n,n = L'.length:=⟨_,rfl⟩
 rw [<- hn] at hx ⊢
 rw [<- hn'] at hy ⊢
 have HN:=lH hn
 have HN':=lH hn'
 have ha:=lH (hb_new w KT trivial #[.int .i64 K,.string k,.slice A n q,.string u,.string m,.string v,.string e] 26)
 have hb:=lH (hb_new (w.alloc (.cells #[.int .i64 K,.string k,.slice A n q,.string u,.string m,.string v,.string e] 26)) KT trivial #[.int .i64 K',.string k',.slice B n' r,.string u',.string m',.string v',.string e'] 26)
 replace ha:=lH (ha.out.step ((Below.refl _ (w.alloc (.cells #[.int .i64 K,.string k,.slice A n q,.string u,.string m,.string v,.string e] 26))).alloc (Nat.le_refl _) (.cells #[.int .i64 K',.string k',.slice B n' r,.string u',.string m',.string v',.string e'] 26)))
 have HX:=lH (hx.since ha.out.since)
 have HY:=lH (hy.since ha.out.since)
 have HS:=lH ha.out.since
 obtain ⟨_,m0,m1,m2,m3,m4,m5,m6⟩:=hb7 ha
 rw [show (w.alloc (.cells #[.int .i64 K,.string k,.slice A n q,.string u,.string m,.string v,.string e] 26)).heap.size = w.heap.size + 1 by simp] at hb
 obtain ⟨_,n0,n1,n2,n3,n4,n5,n6⟩:=hb7 hb
 clear hx hy hn hn'
 go_enter Tryz.func12,Tryz.ntmps12
 clear ha hb HX HY
 go_wp2_with fail
 all_goals
   go_ret
   exact ⟨rfl,HS.out⟩
set_option maxHeartbeats 4000000 in
theorem sm_5 (K:Int) (k u m v e:ByteArray) (L:List A2) (K':Int) (k' u' m' v' e':ByteArray) (L':List A2) (t1:(K == K') = true) (t2:(k.toList == k'.toList) = true) (t3:(u.toList == u'.toList) = true) (t4:(m.toList == m'.toList) = true) (t5:(v.toList == v'.toList) = false):SmeR 12 K k u m v e L K' k' u' m' v' e' L' false:=by
 (try have b1:(K != K') = !true:=by rw [bne,t1])
 (try have b1:(K != K') = !false:=by rw [bne,t1])
 (try have b2:(k.toList != k'.toList) = !true:=by rw [bne,t2])
 (try have b2:(k.toList != k'.toList) = !false:=by rw [bne,t2])
 (try have b3:(u.toList != u'.toList) = !true:=by rw [bne,t3])
 (try have b3:(u.toList != u'.toList) = !false:=by rw [bne,t3])
 (try have b4:(m.toList != m'.toList) = !true:=by rw [bne,t4])
 (try have b4:(m.toList != m'.toList) = !false:=by rw [bne,t4])
 (try have b5:(v.toList != v'.toList) = !true:=by rw [bne,t5])
 (try have b5:(v.toList != v'.toList) = !false:=by rw [bne,t5])
 (try have b6:(e.toList != e'.toList) = !true:=by rw [bne,t6])
 (try have b6:(e.toList != e'.toList) = !false:=by rw [bne,t6])
 (try simp only [Bool.not_true] at b1)
 (try simp only [Bool.not_true] at b2)
 (try simp only [Bool.not_true] at b3)
 (try simp only [Bool.not_true] at b4)
 (try simp only [Bool.not_false] at b5)
 (try simp only [Bool.not_true,Bool.not_false] at b6)
 intro w x y hx hy
 obtain ⟨A,q,rfl,-,-⟩:=hx.slice
 obtain ⟨B,r,rfl,-,-⟩:=hy.slice
 obtain ⟨n,hn⟩:∃ n,n = L.length:=⟨_,rfl⟩
 obtain ⟨n',hn'⟩:∃ n,n = L'.length:=⟨_,rfl⟩
 rw [<- hn] at hx ⊢
 rw [<- hn'] at hy ⊢
 have HN:=lH hn
 have HN':=lH hn'
 have ha:=lH (hb_new w KT trivial #[.int .i64 K,.string k,.slice A n q,.string u,.string m,.string v,.string e] 26)
 have hb:=lH (hb_new (w.alloc (.cells #[.int .i64 K,.string k,.slice A n q,.string u,.string m,.string v,.string e] 26)) KT trivial #[.int .i64 K',.string k',.slice B n' r,.string u',.string m',.string v',.string e'] 26)
 replace ha:=lH (ha.out.step ((Below.refl _ (w.alloc (.cells #[.int .i64 K,.string k,.slice A n q,.string u,.string m,.string v,.string e] 26))).alloc (Nat.le_refl _) (.cells #[.int .i64 K',.string k',.slice B n' r,.string u',.string m',.string v',.string e'] 26)))
 have HX:=lH (hx.since ha.out.since)
 have HY:=lH (hy.since ha.out.since)
 have HS:=lH ha.out.since
 obtain ⟨_,m0,m1,m2,m3,m4,m5,m6⟩:=hb7 ha
 rw [show (w.alloc (.cells #[.int .i64 K,.string k,.slice A n q,.string u,.string m,.string v,.string e] 26)).heap.size = w.heap.size + 1 by simp] at hb
 obtain ⟨_,n0,n1,n2,n3,n4,n5,n6⟩:=hb7 hb
 clear hx hy hn hn'
 go_enter Tryz.func12,Tryz.ntmps12
 clear ha hb HX HY
 go_wp2_with fail
 all_goals
   go_ret
   exact ⟨rfl,HS.out⟩
set_option maxHeartbeats 4000000 in
theorem sm_6 (K:Int) (k u m v e:ByteArray) (L:List A2) (K':Int) (k' u' m' v' e':ByteArray) (L':List A2) (t1:(K == K') = true) (t2:(k.toList == k'.toList) = true) (t3:(u.toList == u'.toList) = true) (t4:(m.toList == m'.toList) = true) (t5:(v.toList == v'.toList) = true) (t6:(e.toList == e'.toList) = false):SmeR 12 K k u m v e L K' k' u' m' v' e' L' false:=by
 (try have b1:(K != K') = !true:=by rw [bne,t1])
 (try have b1:(K != K') = !false:=by rw [bne,t1])
 (try have b2:(k.toList != k'.toList) = !true:=by rw [bne,t2])
 (try have b2:(k.toList != k'.toList) = !false:=by rw [bne,t2])
 (try have b3:(u.toList != u'.toList) = !true:=by rw [bne,t3])
 (try have b3:(u.toList != u'.toList) = !false:=by rw [bne,t3])
 (try have b4:(m.toList != m'.toList) = !true:=by rw [bne,t4])
 (try have b4:(m.toList != m'.toList) = !false:=by rw [bne,t4])
 (try have b5:(v.toList != v'.toList) = !true:=by rw [bne,t5])
 (try have b5:(v.toList != v'.toList) = !false:=by rw [bne,t5])
 (try have b6:(e.toList != e'.toList) = !true:=by rw [bne,t6])
 (try have b6:(e.toList != e'.toList) = !false:=by rw [bne,t6])
 (try simp only [Bool.not_true] at b1)
 (try simp only [Bool.not_true] at b2)
 (try simp only [Bool.not_true] at b3)
 (try simp only [Bool.not_true] at b4)
 (try simp only [Bool.not_true] at b5)
 (try simp only [Bool.not_false] at b6)
 intro w x y hx hy
 obtain ⟨A,q,rfl,-,-⟩:=hx.slice
 obtain ⟨B,r,rfl,-,-⟩:=hy.slice
 obtain ⟨n,hn⟩:∃ n,n = L.length:=⟨_,rfl⟩
 obtain ⟨n',hn'⟩:∃ n,n = L'.length:=⟨_,rfl⟩
 rw [<- hn] at hx ⊢
 rw [<- hn'] at hy ⊢
 have HN:=lH hn
 have HN':=lH hn'
 have ha:=lH (hb_new w KT trivial #[.int .i64 K,.string k,.slice A n q,.string u,.string m,.string v,.string e] 26)
 have hb:=lH (hb_new (w.alloc (.cells #[.int .i64 K,.string k,.slice A n q,.string u,.string m,.string v,.string e] 26)) KT trivial #[.int .i64 K',.string k',.slice B n' r,.string u',.string m',.string v',.string e'] 26)
 replace ha:=lH (ha.out.step ((Below.refl _ (w.alloc (.cells #[.int .i64 K,.string k,.slice A n q,.string u,.string m,.string v,.string e] 26))).alloc (Nat.le_refl _) (.cells #[.int .i64 K',.string k',.slice B n' r,.string u',.string m',.string v',.string e'] 26)))
 have HX:=lH (hx.since ha.out.since)
 have HY:=lH (hy.since ha.out.since)
 have HS:=lH ha.out.since
 obtain ⟨_,m0,m1,m2,m3,m4,m5,m6⟩:=hb7 ha
 rw [show (w.alloc (.cells #[.int .i64 K,.string k,.slice A n q,.string u,.string m,.string v,.string e] 26)).heap.size = w.heap.size + 1 by simp] at hb
 obtain ⟨_,n0,n1,n2,n3,n4,n5,n6⟩:=hb7 hb
 clear hx hy hn hn'
 go_enter Tryz.func12,Tryz.ntmps12
 clear ha hb HX HY
 go_wp2_with fail
 all_goals
   go_ret
   exact ⟨rfl,HS.out⟩
set_option maxHeartbeats 4000000 in
theorem rsm_1 (K:Int) (k u m v e:ByteArray) (L:List A2) (K':Int) (k' u' m' v' e':ByteArray) (L':List A2) (t1:(K == K') = false):SmeR 13 K k u m v e L K' k' u' m' v' e' L' false:=by
 (try have b1:(K != K') = !true:=by rw [bne,t1])
 (try have b1:(K != K') = !false:=by rw [bne,t1])
 (try have b2:(k.toList != k'.toList) = !true:=by rw [bne,t2])
 (try have b2:(k.toList != k'.toList) = !false:=by rw [bne,t2])
 (try have b3:(u.toList != u'.toList) = !true:=by rw [bne,t3])
 (try have b3:(u.toList != u'.toList) = !false:=by rw [bne,t3])
 (try have b4:(m.toList != m'.toList) = !true:=by rw [bne,t4])
 (try have b4:(m.toList != m'.toList) = !false:=by rw [bne,t4])
 (try have b5:(v.toList != v'.toList) = !true:=by rw [bne,t5])
 (try have b5:(v.toList != v'.toList) = !false:=by rw [bne,t5])
 (try have b6:(e.toList != e'.toList) = !true:=by rw [bne,t6])
 (try have b6:(e.toList != e'.toList) = !false:=by rw [bne,t6])
 (try simp only [Bool.not_false] at b1)
 (try simp only [Bool.not_true,Bool.not_false] at b2)
 (try simp only [Bool.not_true,Bool.not_false] at b3)
 (try simp only [Bool.not_true,Bool.not_false] at b4)
 (try simp only [Bool.not_true,Bool.not_false] at b5)
 (try simp only [Bool.not_true,Bool.not_false] at b6)
 intro w x y hx hy
 obtain ⟨A,q,rfl,-,-⟩:=hx.slice
 obtain ⟨B,r,rfl,-,-⟩:=hy.slice
 obtain ⟨n,hn⟩:∃ n,n = L.length:=⟨_,rfl⟩
 obtain ⟨n',hn'⟩:∃ n,n = L'.length:=⟨_,rfl⟩
 rw [<- hn] at hx ⊢
 rw [<- hn'] at hy ⊢
 have HN:=lH hn
 have HN':=lH hn'
 have ha:=lH (hb_new w KT trivial #[.int .i64 K,.string k,.slice A n q,.string u,.string m,.string v,.string e] 26)
 have hb:=lH (hb_new (w.alloc (.cells #[.int .i64 K,.string k,.slice A n q,.string u,.string m,.string v,.string e] 26)) KT trivial #[.int .i64 K',.string k',.slice B n' r,.string u',.string m',.string v',.string e'] 26)
 replace ha:=lH (ha.out.step ((Below.refl _ (w.alloc (.cells #[.int .i64 K,.string k,.slice A n q,.string u,.string m,.string v,.string e] 26))).alloc (Nat.le_refl _) (.cells #[.int .i64 K',.string k',.slice B n' r,.string u',.string m',.string v',.string e'] 26)))
 have HX:=lH (hx.since ha.out.since)
 have HY:=lH (hy.since ha.out.since)
 have HS:=lH ha.out.since
 obtain ⟨_,m0,m1,m2,m3,m4,m5,m6⟩:=hb7 ha
 rw [show (w.alloc (.cells #[.int .i64 K,.string k,.slice A n q,.string u,.string m,.string v,.string e] 26)).heap.size = w.heap.size + 1 by simp] at hb
 obtain ⟨_,n0,n1,n2,n3,n4,n5,n6⟩:=hb7 hb
 clear hx hy hn hn'
 go_enter Tryz.func13,Tryz.ntmps13
 clear ha hb HX HY
 go_wp2_with fail
 all_goals
   go_ret
   exact ⟨rfl,HS.out⟩
set_option maxHeartbeats 4000000 in
theorem rsm_2 (K:Int) (k u m v e:ByteArray) (L:List A2) (K':Int) (k' u' m' v' e':ByteArray) (L':List A2) (t1:(K == K') = true) (t2:(k.toList == k'.toList) = false):SmeR 13 K k u m v e L K' k' u' m' v' e' L' false:=by
 (try have b1:(K != K') = !true:=by rw [bne,t1])
 (try have b1:(K != K') = !false:=by rw [bne,t1])
 (try have b2:(k.toList != k'.toList) = !true:=by rw [bne,t2])
 (try have b2:(k.toList != k'.toList) = !false:=by rw [bne,t2])
 (try have b3:(u.toList != u'.toList) = !true:=by rw [bne,t3])
 (try have b3:(u.toList != u'.toList) = !false:=by rw [bne,t3])
 (try have b4:(m.toList != m'.toList) = !true:=by rw [bne,t4])
 (try have b4:(m.toList != m'.toList) = !false:=by rw [bne,t4])
 (try have b5:(v.toList != v'.toList) = !true:=by rw [bne,t5])
 (try have b5:(v.toList != v'.toList) = !false:=by rw [bne,t5])
 (try have b6:(e.toList != e'.toList) = !true:=by rw [bne,t6])
 (try have b6:(e.toList != e'.toList) = !false:=by rw [bne,t6])
 (try simp only [Bool.not_true] at b1)
 (try simp only [Bool.not_false] at b2)
 (try simp only [Bool.not_true,Bool.not_false] at b3)
 (try simp only [Bool.not_true,Bool.not_false] at b4)
 (try simp only [Bool.not_true,Bool.not_false] at b5)
 (try simp only [Bool.not_true,Bool.not_false] at b6)
 intro w x y hx hy
 obtain ⟨A,q,rfl,-,-⟩:=hx.slice
 obtain ⟨B,r,rfl,-,-⟩:=hy.slice
 obtain ⟨n,hn⟩:∃ n,n = L.length:=⟨_,rfl⟩
 obtain ⟨n',hn'⟩:∃ n,n = L'.length:=⟨_,rfl⟩
 rw [<- hn] at hx ⊢
 rw [<- hn'] at hy ⊢
 have HN:=lH hn
 have HN':=lH hn'
 have ha:=lH (hb_new w KT trivial #[.int .i64 K,.string k,.slice A n q,.string u,.string m,.string v,.string e] 26)
 have hb:=lH (hb_new (w.alloc (.cells #[.int .i64 K,.string k,.slice A n q,.string u,.string m,.string v,.string e] 26)) KT trivial #[.int .i64 K',.string k',.slice B n' r,.string u',.string m',.string v',.string e'] 26)
 replace ha:=lH (ha.out.step ((Below.refl _ (w.alloc (.cells #[.int .i64 K,.string k,.slice A n q,.string u,.string m,.string v,.string e] 26))).alloc (Nat.le_refl _) (.cells #[.int .i64 K',.string k',.slice B n' r,.string u',.string m',.string v',.string e'] 26)))
 have HX:=lH (hx.since ha.out.since)
 have HY:=lH (hy.since ha.out.since)
 have HS:=lH ha.out.since
 obtain ⟨_,m0,m1,m2,m3,m4,m5,m6⟩:=hb7 ha
 rw [show (w.alloc (.cells #[.int .i64 K,.string k,.slice A n q,.string u,.string m,.string v,.string e] 26)).heap.size = w.heap.size + 1 by simp] at hb
 obtain ⟨_,n0,n1,n2,n3,n4,n5,n6⟩:=hb7 hb
 clear hx hy hn hn'
 go_enter Tryz.func13,Tryz.ntmps13
 clear ha hb HX HY
 go_wp2_with fail
 all_goals
   go_ret
   exact ⟨rfl,HS.out⟩
set_option maxHeartbeats 4000000 in
theorem rsm_3 (K:Int) (k u m v e:ByteArray) (L:List A2) (K':Int) (k' u' m' v' e':ByteArray) (L':List A2) (t1:(K == K') = true) (t2:(k.toList == k'.toList) = true) (t3:(u.toList == u'.toList) = false):SmeR 13 K k u m v e L K' k' u' m' v' e' L' false:=by
 (try have b1:(K != K') = !true:=by rw [bne,t1])
 (try have b1:(K != K') = !false:=by rw [bne,t1])
 (try have b2:(k.toList != k'.toList) = !true:=by rw [bne,t2])
 (try have b2:(k.toList != k'.toList) = !false:=by rw [bne,t2])
 (try have b3:(u.toList != u'.toList) = !true:=by rw [bne,t3])
 (try have b3:(u.toList != u'.toList) = !false:=by rw [bne,t3])
 (try have b4:(m.toList != m'.toList) = !true:=by rw [bne,t4])
 (try have b4:(m.toList != m'.toList) = !false:=by rw [bne,t4])
 (try have b5:(v.toList != v'.toList) = !true:=by rw [bne,t5])
 (try have b5:(v.toList != v'.toList) = !false:=by rw [bne,t5])
 (try have b6:(e.toList != e'.toList) = !true:=by rw [bne,t6])
 (try have b6:(e.toList != e'.toList) = !false:=by rw [bne,t6])
 (try simp only [Bool.not_true] at b1)
 (try simp only [Bool.not_true] at b2)
 (try simp only [Bool.not_false] at b3)
 (try simp only [Bool.not_true,Bool.not_false] at b4)
 (try simp only [Bool.not_true,Bool.not_false] at b5)
 (try simp only [Bool.not_true,Bool.not_false] at b6)
 intro w x y hx hy
 obtain ⟨A,q,rfl,-,-⟩:=hx.slice
 obtain ⟨B,r,rfl,-,-⟩:=hy.slice
 obtain ⟨n,hn⟩:∃ n,n = L.length:=⟨_,rfl⟩
 obtain ⟨n',hn'⟩:∃ n,n = L'.length:=⟨_,rfl⟩
 rw [<- hn] at hx ⊢
 rw [<- hn'] at hy ⊢
 have HN:=lH hn
 have HN':=lH hn'
 have ha:=lH (hb_new w KT trivial #[.int .i64 K,.string k,.slice A n q,.string u,.string m,.string v,.string e] 26)
 have hb:=lH (hb_new (w.alloc (.cells #[.int .i64 K,.string k,.slice A n q,.string u,.string m,.string v,.string e] 26)) KT trivial #[.int .i64 K',.string k',.slice B n' r,.string u',.string m',.string v',.string e'] 26)
 replace ha:=lH (ha.out.step ((Below.refl _ (w.alloc (.cells #[.int .i64 K,.string k,.slice A n q,.string u,.string m,.string v,.string e] 26))).alloc (Nat.le_refl _) (.cells #[.int .i64 K',.string k',.slice B n' r,.string u',.string m',.string v',.string e'] 26)))
 have HX:=lH (hx.since ha.out.since)
 have HY:=lH (hy.since ha.out.since)
 have HS:=lH ha.out.since
 obtain ⟨_,m0,m1,m2,m3,m4,m5,m6⟩:=hb7 ha
 rw [show (w.alloc (.cells #[.int .i64 K,.string k,.slice A n q,.string u,.string m,.string v,.string e] 26)).heap.size = w.heap.size + 1 by simp] at hb
 obtain ⟨_,n0,n1,n2,n3,n4,n5,n6⟩:=hb7 hb
 clear hx hy hn hn'
 go_enter Tryz.func13,Tryz.ntmps13
 clear ha hb HX HY
 go_wp2_with fail
 all_goals
   go_ret
   exact ⟨rfl,HS.out⟩
set_option maxHeartbeats 4000000 in
theorem rsm_4 (K:Int) (k u m v e:ByteArray) (L:List A2) (K':Int) (k' u' m' v' e':ByteArray) (L':List A2) (t1:(K == K') = true) (t2:(k.toList == k'.toList) = true) (t3:(u.toList == u'.toList) = true) (t4:(m.toList == m'.toList) = false):SmeR 13 K k u m v e L K' k' u' m' v' e' L' false:=by
 (try have b1:(K != K') = !true:=by rw [bne,t1])
 (try have b1:(K != K') = !false:=by rw [bne,t1])
 (try have b2:(k.toList != k'.toList) = !true:=by rw [bne,t2])
 (try have b2:(k.toList != k'.toList) = !false:=by rw [bne,t2])
 (try have b3:(u.toList != u'.toList) = !true:=by rw [bne,t3])
 (try have b3:(u.toList != u'.toList) = !false:=by rw [bne,t3])
 (try have b4:(m.toList != m'.toList) = !true:=by rw [bne,t4])
 (try have b4:(m.toList != m'.toList) = !false:=by rw [bne,t4])
 (try have b5:(v.toList != v'.toList) = !true:=by rw [bne,t5])
 (try have b5:(v.toList != v'.toList) = !false:=by rw [bne,t5])
 (try have b6:(e.toList != e'.toList) = !true:=by rw [bne,t6])
 (try have b6:(e.toList != e'.toList) = !false:=by rw [bne,t6])
 (try simp only [Bool.not_true] at b1)
 (try simp only [Bool.not_true] at b2)
 (try simp only [Bool.not_true] at b3)
 (try simp only [Bool.not_false] at b4)
 (try simp only [Bool.not_true,Bool.not_false] at b5)
 (try simp only [Bool.not_true,Bool.not_false] at b6)
 intro w x y hx hy
 obtain ⟨A,q,rfl,-,-⟩:=hx.slice
 obtain ⟨B,r,rfl,-,-⟩:=hy.slice
 obtain ⟨n,hn⟩:∃ n,n = L.length:=⟨_,rfl⟩
 obtain ⟨n',hn'⟩:∃ n,n = L'.length:=⟨_,rfl⟩
 rw [<- hn] at hx ⊢
 rw [<- hn'] at hy ⊢
 have HN:=lH hn
 have HN':=lH hn'
 have ha:=lH (hb_new w KT trivial #[.int .i64 K,.string k,.slice A n q,.string u,.string m,.string v,.string e] 26)
 have hb:=lH (hb_new (w.alloc (.cells #[.int .i64 K,.string k,.slice A n q,.string u,.string m,.string v,.string e] 26)) KT trivial #[.int .i64 K',.string k',.slice B n' r,.string u',.string m',.string v',.string e'] 26)
 replace ha:=lH (ha.out.step ((Below.refl _ (w.alloc (.cells #[.int .i64 K,.string k,.slice A n q,.string u,.string m,.string v,.string e] 26))).alloc (Nat.le_refl _) (.cells #[.int .i64 K',.string k',.slice B n' r,.string u',.string m',.string v',.string e'] 26)))
 have HX:=lH (hx.since ha.out.since)
 have HY:=lH (hy.since ha.out.since)
 have HS:=lH ha.out.since
 obtain ⟨_,m0,m1,m2,m3,m4,m5,m6⟩:=hb7 ha
 rw [show (w.alloc (.cells #[.int .i64 K,.string k,.slice A n q,.string u,.string m,.string v,.string e] 26)).heap.size = w.heap.size + 1 by simp] at hb
 obtain ⟨_,n0,n1,n2,n3,n4,n5,n6⟩:=hb7 hb
 clear hx hy hn hn'
 go_enter Tryz.func13,Tryz.ntmps13
 clear ha hb HX HY
 go_wp2_with fail
 all_goals
   go_ret
   exact ⟨rfl,HS.out⟩
set_option maxHeartbeats 4000000 in
theorem rsm_5 (K:Int) (k u m v e:ByteArray) (L:List A2) (K':Int) (k' u' m' v' e':ByteArray) (L':List A2) (t1:(K == K') = true) (t2:(k.toList == k'.toList) = true) (t3:(u.toList == u'.toList) = true) (t4:(m.toList == m'.toList) = true) (t5:(v.toList == v'.toList) = false):SmeR 13 K k u m v e L K' k' u' m' v' e' L' false:=by
 (try have b1:(K != K') = !true:=by rw [bne,t1])
 (try have b1:(K != K') = !false:=by rw [bne,t1])
 (try have b2:(k.toList != k'.toList) = !true:=by rw [bne,t2])
 (try have b2:(k.toList != k'.toList) = !false:=by rw [bne,t2])
 (try have b3:(u.toList != u'.toList) = !true:=by rw [bne,t3])
 (try have b3:(u.toList != u'.toList) = !false:=by rw [bne,t3])
 (try have b4:(m.toList != m'.toList) = !true:=by rw [bne,t4])
 (try have b4:(m.toList != m'.toList) = !false:=by rw [bne,t4])
 (try have b5:(v.toList != v'.toList) = !true:=by rw [bne,t5])
 (try have b5:(v.toList != v'.toList) = !false:=by rw [bne,t5])
 (try have b6:(e.toList != e'.toList) = !true:=by rw [bne,t6])
 (try have b6:(e.toList != e'.toList) = !false:=by rw [bne,t6])
 (try simp only [Bool.not_true] at b1)
 (try simp only [Bool.not_true] at b2)
 (try simp only [Bool.not_true] at b3)
 (try simp only [Bool.not_true] at b4)
 (try simp only [Bool.not_false] at b5)
 (try simp only [Bool.not_true,Bool.not_false] at b6)
 intro w x y hx hy
 obtain ⟨A,q,rfl,-,-⟩:=hx.slice
 obtain ⟨B,r,rfl,-,-⟩:=hy.slice
 obtain ⟨n,hn⟩:∃ n,n = L.length:=⟨_,rfl⟩
 obtain ⟨n',hn'⟩:∃ n,n = L'.length:=⟨_,rfl⟩
 rw [<- hn] at hx ⊢
 rw [<- hn'] at hy ⊢
 have HN:=lH hn
 have HN':=lH hn'
 have ha:=lH (hb_new w KT trivial #[.int .i64 K,.string k,.slice A n q,.string u,.string m,.string v,.string e] 26)
 have hb:=lH (hb_new (w.alloc (.cells #[.int .i64 K,.string k,.slice A n q,.string u,.string m,.string v,.string e] 26)) KT trivial #[.int .i64 K',.string k',.slice B n' r,.string u',.string m',.string v',.string e'] 26)
 replace ha:=lH (ha.out.step ((Below.refl _ (w.alloc (.cells #[.int .i64 K,.string k,.slice A n q,.string u,.string m,.string v,.string e] 26))).alloc (Nat.le_refl _) (.cells #[.int .i64 K',.string k',.slice B n' r,.string u',.string m',.string v',.string e'] 26)))
 have HX:=lH (hx.since ha.out.since)
 have HY:=lH (hy.since ha.out.since)
 have HS:=lH ha.out.since
 obtain ⟨_,m0,m1,m2,m3,m4,m5,m6⟩:=hb7 ha
 rw [show (w.alloc (.cells #[.int .i64 K,.string k,.slice A n q,.string u,.string m,.string v,.string e] 26)).heap.size = w.heap.size + 1 by simp] at hb
 obtain ⟨_,n0,n1,n2,n3,n4,n5,n6⟩:=hb7 hb
 clear hx hy hn hn'
 go_enter Tryz.func13,Tryz.ntmps13
 clear ha hb HX HY
 go_wp2_with fail
 all_goals
   go_ret
   exact ⟨rfl,HS.out⟩
set_option maxHeartbeats 4000000 in
theorem rsm_6 (K:Int) (k u m v e:ByteArray) (L:List A2) (K':Int) (k' u' m' v' e':ByteArray) (L':List A2) (t1:(K == K') = true) (t2:(k.toList == k'.toList) = true) (t3:(u.toList == u'.toList) = true) (t4:(m.toList == m'.toList) = true) (t5:(v.toList == v'.toList) = true) (t6:(e.toList == e'.toList) = false):SmeR 13 K k u m v e L K' k' u' m' v' e' L' false:=by
 (try have b1:(K != K') = !true:=by rw [bne,t1])
 (try have b1:(K != K') = !false:=by rw [bne,t1])
 (try have b2:(k.toList != k'.toList) = !true:=by rw [bne,t2])
 (try have b2:(k.toList != k'.toList) = !false:=by rw [bne,t2])
 (try have b3:(u.toList != u'.toList) = !true:=by rw [bne,t3])
 (try have b3:(u.toList != u'.toList) = !false:=by rw [bne,t3])
 (try have b4:(m.toList != m'.toList) = !true:=by rw [bne,t4])
 (try have b4:(m.toList != m'.toList) = !false:=by rw [bne,t4])
 (try have b5:(v.toList != v'.toList) = !true:=by rw [bne,t5])
 (try have b5:(v.toList != v'.toList) = !false:=by rw [bne,t5])
 (try have b6:(e.toList != e'.toList) = !true:=by rw [bne,t6])
 (try have b6:(e.toList != e'.toList) = !false:=by rw [bne,t6])
 (try simp only [Bool.not_true] at b1)
 (try simp only [Bool.not_true] at b2)
 (try simp only [Bool.not_true] at b3)
 (try simp only [Bool.not_true] at b4)
 (try simp only [Bool.not_true] at b5)
 (try simp only [Bool.not_false] at b6)
 intro w x y hx hy
 obtain ⟨A,q,rfl,-,-⟩:=hx.slice
 obtain ⟨B,r,rfl,-,-⟩:=hy.slice
 obtain ⟨n,hn⟩:∃ n,n = L.length:=⟨_,rfl⟩
 obtain ⟨n',hn'⟩:∃ n,n = L'.length:=⟨_,rfl⟩
 rw [<- hn] at hx ⊢
 rw [<- hn'] at hy ⊢
 have HN:=lH hn
 have HN':=lH hn'
 have ha:=lH (hb_new w KT trivial #[.int .i64 K,.string k,.slice A n q,.string u,.string m,.string v,.string e] 26)
 have hb:=lH (hb_new (w.alloc (.cells #[.int .i64 K,.string k,.slice A n q,.string u,.string m,.string v,.string e] 26)) KT trivial #[.int .i64 K',.string k',.slice B n' r,.string u',.string m',.string v',.string e'] 26)
 replace ha:=lH (ha.out.step ((Below.refl _ (w.alloc (.cells #[.int .i64 K,.string k,.slice A n q,.string u,.string m,.string v,.string e] 26))).alloc (Nat.le_refl _) (.cells #[.int .i64 K',.string k',.slice B n' r,.string u',.string m',.string v',.string e'] 26)))
 have HX:=lH (hx.since ha.out.since)
 have HY:=lH (hy.since ha.out.since)
 have HS:=lH ha.out.since
 obtain ⟨_,m0,m1,m2,m3,m4,m5,m6⟩:=hb7 ha
 rw [show (w.alloc (.cells #[.int .i64 K,.string k,.slice A n q,.string u,.string m,.string v,.string e] 26)).heap.size = w.heap.size + 1 by simp] at hb
 obtain ⟨_,n0,n1,n2,n3,n4,n5,n6⟩:=hb7 hb
 clear hx hy hn hn'
 go_enter Tryz.func13,Tryz.ntmps13
 clear ha hb HX HY
 go_wp2_with fail
 all_goals
   go_ret
   exact ⟨rfl,HS.out⟩
set_option maxHeartbeats 4000000 in
theorem sm_7 (K:Int) (k u m v e:ByteArray) (L:List A2) (K':Int) (k' u' m' v' e':ByteArray) (L':List A2) (t1:(K == K') = true) (t2:(k.toList == k'.toList) = true) (t3:(u.toList == u'.toList) = true) (t4:(m.toList == m'.toList) = true) (t5:(v.toList == v'.toList) = true) (t6:(e.toList == e'.toList) = true):SmeR 12 K k u m v e L K' k' u' m' v' e' L' (decide (L = L')):=by
 have c1:=attrs_eq L L'
 obtain ⟨Q,hQ⟩:∃ Q,Q = decide (L = L'):=⟨_,rfl⟩
 rw [<- hQ] at c1 ⊢
 clear hQ
 intro w x y hx hy
 obtain ⟨A,q,rfl,-,-⟩:=hx.slice
 obtain ⟨B,r,rfl,-,-⟩:=hy.slice
 obtain ⟨n,hn⟩:∃ n,n = L.length:=⟨_,rfl⟩
 obtain ⟨n',hn'⟩:∃ n,n = L'.length:=⟨_,rfl⟩
 rw [<- hn] at hx ⊢
 rw [<- hn'] at hy ⊢
 have HN:=lH hn
 have HN':=lH hn'
 have ha:=lH (hb_new w KT trivial #[.int .i64 K,.string k,.slice A n q,.string u,.string m,.string v,.string e] 26)
 have hb:=lH (hb_new (w.alloc (.cells #[.int .i64 K,.string k,.slice A n q,.string u,.string m,.string v,.string e] 26)) KT trivial #[.int .i64 K',.string k',.slice B n' r,.string u',.string m',.string v',.string e'] 26)
 replace ha:=lH (ha.out.step ((Below.refl _ (w.alloc (.cells #[.int .i64 K,.string k,.slice A n q,.string u,.string m,.string v,.string e] 26))).alloc (Nat.le_refl _) (.cells #[.int .i64 K',.string k',.slice B n' r,.string u',.string m',.string v',.string e'] 26)))
 have HX:=lH (hx.since ha.out.since)
 have HY:=lH (hy.since ha.out.since)
 have HS:=lH ha.out.since
 obtain ⟨_,m0,m1,m2,m3,m4,m5,m6⟩:=hb7 ha
 rw [show (w.alloc (.cells #[.int .i64 K,.string k,.slice A n q,.string u,.string m,.string v,.string e] 26)).heap.size = w.heap.size + 1 by simp] at hb
 obtain ⟨_,n0,n1,n2,n3,n4,n5,n6⟩:=hb7 hb
 clear hx hy hn hn'
 go_enter Tryz.func12,Tryz.ntmps12
 clear ha hb
 go_wp2_with fail
 refine c1.calls0 HX.out HY.out ?_
 intro w1 h1
 replace HS:=lH (HS.out.step h1)
 clear h1 m0 m1 m2 m3 m4 m5 m6 n0 n1 n2 n3 n4 n5 n6
 go_wp2_with fail
 go_ret
 exact ⟨rfl,HS.out⟩
set_option maxHeartbeats 4000000 in
theorem rsm_7 (K:Int) (k u m v e:ByteArray) (L:List A2) (K':Int) (k' u' m' v' e':ByteArray) (L':List A2) (t1:(K == K') = true) (t2:(k.toList == k'.toList) = true) (t3:(u.toList == u'.toList) = true) (t4:(m.toList == m'.toList) = true) (t5:(v.toList == v'.toList) = true) (t6:(e.toList == e'.toList) = true) (hl:L.length ≠ L'.length):SmeR 13 K k u m v e L K' k' u' m' v' e' L' false:=by
 (try have b1:(K != K') = !true:=by rw [bne,t1])
 (try have b1:(K != K') = !false:=by rw [bne,t1])
 (try have b2:(k.toList != k'.toList) = !true:=by rw [bne,t2])
 (try have b2:(k.toList != k'.toList) = !false:=by rw [bne,t2])
 (try have b3:(u.toList != u'.toList) = !true:=by rw [bne,t3])
 (try have b3:(u.toList != u'.toList) = !false:=by rw [bne,t3])
 (try have b4:(m.toList != m'.toList) = !true:=by rw [bne,t4])
 (try have b4:(m.toList != m'.toList) = !false:=by rw [bne,t4])
 (try have b5:(v.toList != v'.toList) = !true:=by rw [bne,t5])
 (try have b5:(v.toList != v'.toList) = !false:=by rw [bne,t5])
 (try have b6:(e.toList != e'.toList) = !true:=by rw [bne,t6])
 (try have b6:(e.toList != e'.toList) = !false:=by rw [bne,t6])
 (try simp only [Bool.not_true] at b1)
 (try simp only [Bool.not_true] at b2)
 (try simp only [Bool.not_true] at b3)
 (try simp only [Bool.not_true] at b4)
 (try simp only [Bool.not_true] at b5)
 (try simp only [Bool.not_true] at b6)
 intro w x y hx hy
 obtain ⟨A,q,rfl,-,-⟩:=hx.slice
 obtain ⟨B,r,rfl,-,-⟩:=hy.slice
 obtain ⟨n,hn⟩:∃ n,n = L.length:=⟨_,rfl⟩
 obtain ⟨n',hn'⟩:∃ n,n = L'.length:=⟨_,rfl⟩
 rw [<- hn] at hx ⊢
 rw [<- hn'] at hy ⊢
 have HN:=lH hn
 have HN':=lH hn'
 have ha:=lH (hb_new w KT trivial #[.int .i64 K,.string k,.slice A n q,.string u,.string m,.string v,.string e] 26)
 have hb:=lH (hb_new (w.alloc (.cells #[.int .i64 K,.string k,.slice A n q,.string u,.string m,.string v,.string e] 26)) KT trivial #[.int .i64 K',.string k',.slice B n' r,.string u',.string m',.string v',.string e'] 26)
 replace ha:=lH (ha.out.step ((Below.refl _ (w.alloc (.cells #[.int .i64 K,.string k,.slice A n q,.string u,.string m,.string v,.string e] 26))).alloc (Nat.le_refl _) (.cells #[.int .i64 K',.string k',.slice B n' r,.string u',.string m',.string v',.string e'] 26)))
 have HX:=lH (hx.since ha.out.since)
 have HY:=lH (hy.since ha.out.since)
 have HS:=lH ha.out.since
 obtain ⟨_,m0,m1,m2,m3,m4,m5,m6⟩:=hb7 ha
 rw [show (w.alloc (.cells #[.int .i64 K,.string k,.slice A n q,.string u,.string m,.string v,.string e] 26)).heap.size = w.heap.size + 1 by simp] at hb
 obtain ⟨_,n0,n1,n2,n3,n4,n5,n6⟩:=hb7 hb
 clear hx hy hn hn'
 go_enter Tryz.func13,Tryz.ntmps13
 have t7:((n:Int) == (n':Int)) = false:=beq_eq_false_iff_ne.2 (fun h => hl (by have:=HN.out; have:=HN'.out; omega))
 have b7:((n:Int) != (n':Int)) = true:=by rw [bne,t7]; rfl
 clear ha hb HX HY hl
 go_wp2_with fail
 all_goals
   go_ret
   exact ⟨rfl,HS.out⟩
set_option maxHeartbeats 8000000 in
theorem rsm_8 (K:Int) (k u m v e:ByteArray) (L:List A2) (K':Int) (k' u' m' v' e':ByteArray) (L':List A2) (t1:(K == K') = true) (t2:(k.toList == k'.toList) = true) (t3:(u.toList == u'.toList) = true) (t4:(m.toList == m'.toList) = true) (t5:(v.toList == v'.toList) = true) (t6:(e.toList == e'.toList) = true) (hl:L.length = L'.length):SmeR 13 K k u m v e L K' k' u' m' v' e' L' (decide (L = L')):=by
 obtain ⟨Q,hQ⟩:∃ Q,Q = decide (L = L'):=⟨_,rfl⟩
 rw [<- hQ]
 have HQ:=lH hQ
 clear hQ
 (try have b1:(K != K') = !true:=by rw [bne,t1])
 (try have b1:(K != K') = !false:=by rw [bne,t1])
 (try have b2:(k.toList != k'.toList) = !true:=by rw [bne,t2])
 (try have b2:(k.toList != k'.toList) = !false:=by rw [bne,t2])
 (try have b3:(u.toList != u'.toList) = !true:=by rw [bne,t3])
 (try have b3:(u.toList != u'.toList) = !false:=by rw [bne,t3])
 (try have b4:(m.toList != m'.toList) = !true:=by rw [bne,t4])
 (try have b4:(m.toList != m'.toList) = !false:=by rw [bne,t4])
 (try have b5:(v.toList != v'.toList) = !true:=by rw [bne,t5])
 (try have b5:(v.toList != v'.toList) = !false:=by rw [bne,t5])
 (try have b6:(e.toList != e'.toList) = !true:=by rw [bne,t6])
 (try have b6:(e.toList != e'.toList) = !false:=by rw [bne,t6])
 (try simp only [Bool.not_true] at b1)
 (try simp only [Bool.not_true] at b2)
 (try simp only [Bool.not_true] at b3)
 (try simp only [Bool.not_true] at b4)
 (try simp only [Bool.not_true] at b5)
 (try simp only [Bool.not_true] at b6)
 intro w x y hx hy
 obtain ⟨A,q,rfl,-,-⟩:=hx.slice
 obtain ⟨B,r,rfl,-,-⟩:=hy.slice
 obtain ⟨n,hn⟩:∃ n,n = L.length:=⟨_,rfl⟩
 obtain ⟨n',hn'⟩:∃ n,n = L'.length:=⟨_,rfl⟩
 rw [<- hn] at hx ⊢
 rw [<- hn'] at hy ⊢
 have HN:=lH hn
 have HN':=lH hn'
 have ha:=lH (hb_new w KT trivial #[.int .i64 K,.string k,.slice A n q,.string u,.string m,.string v,.string e] 26)
 have hb:=lH (hb_new (w.alloc (.cells #[.int .i64 K,.string k,.slice A n q,.string u,.string m,.string v,.string e] 26)) KT trivial #[.int .i64 K',.string k',.slice B n' r,.string u',.string m',.string v',.string e'] 26)
 replace ha:=lH (ha.out.step ((Below.refl _ (w.alloc (.cells #[.int .i64 K,.string k,.slice A n q,.string u,.string m,.string v,.string e] 26))).alloc (Nat.le_refl _) (.cells #[.int .i64 K',.string k',.slice B n' r,.string u',.string m',.string v',.string e'] 26)))
 have HX:=lH (hx.since ha.out.since)
 have HY:=lH (hy.since ha.out.since)
 have HS:=lH ha.out.since
 obtain ⟨_,m0,m1,m2,m3,m4,m5,m6⟩:=hb7 ha
 rw [show (w.alloc (.cells #[.int .i64 K,.string k,.slice A n q,.string u,.string m,.string v,.string e] 26)).heap.size = w.heap.size + 1 by simp] at hb
 obtain ⟨_,n0,n1,n2,n3,n4,n5,n6⟩:=hb7 hb
 clear hx hy hn hn'
 go_enter Tryz.func13,Tryz.ntmps13
 obtain rfl:n = n':=by have:=HN.out; have:=HN'.out; omega
 have t7:((n:Int) == (n:Int)) = true:=beq_self_eq_true _
 have b7:((n:Int) != (n:Int)) = false:=by rw [bne,t7]; rfl
 clear hl
 go_wp2_with fail
 have HSa:=lH (Since.refl ((w.alloc (.cells #[.int .i64 K,.string k,.slice A n q,.string u,.string m,.string v,.string e] 26)).alloc (.cells #[.int .i64 K',.string k',.slice B n r,.string u',.string m',.string v',.string e'] 26)))
 clear m0 m1 m2 m3 m4 m5 m6 n0 n1 n2 n3 n4 n5 n6
 generalize (w.alloc (.cells #[.int .i64 K,.string k,.slice A n q,.string u,.string m,.string v,.string e] 26)).alloc (.cells #[.int .i64 K',.string k',.slice B n r,.string u',.string m',.string v',.string e'] 26) = w2 at ha hb HX HY HS HSa ⊢
 go_loopw [5] (fun i wr => ∃ j:Nat,j <= n /\ i = .int .i64 (j:Int) /\ Hid (L.take j = L'.take j) /\ Hid (Since w2 wr)) (fun i _ => n - (intOf i).toNat)
 case atStart => exact ⟨0,Nat.zero_le _,rfl,lH rfl,HSa⟩
 case round =>
   clear HSa
   obtain ⟨j,hj,rfl,HA,HSa⟩:=hrel
   obtain ⟨_,-,-,m2,-,-,-,-⟩:=hb7 (lH (ha.out.step HSa.out))
   obtain ⟨_,-,-,n2,-,-,-,-⟩:=hb7 (lH (hb.out.step HSa.out))
   by_cases hlt:j < n
   · obtain ⟨⟨t,s⟩,hs⟩:∃ s,L[j]? = some s:=⟨_,List.getElem?_eq_getElem (by rw [<- HN.out]; exact hlt)⟩
     obtain ⟨⟨t',s'⟩,hs'⟩:∃ s,L'[j]? = some s:=⟨_,List.getElem?_eq_getElem (by rw [<- HN'.out]; exact hlt)⟩
     obtain ⟨b,o,c9,hv,f1,f2,f3,f4⟩:=AttsS.form HX.out (by rw [<- HN.out]; omega)
     obtain ⟨rfl,-,rfl⟩:=Value.slice.inj hv
     obtain ⟨b',o',c9',hv',g1,g2,g3,g4⟩:=AttsS.form HY.out (by rw [<- HN'.out]; omega)
     obtain ⟨rfl,-,rfl⟩:=Value.slice.inj hv'
     have p0:=(Below.cell HSa.out (p:=⟨b,o + j * 2,none⟩) f3).trans (f4 j _ hs).1
     have p1:=(Below.cell HSa.out (p:=⟨b,o + j * 2 + 1,none⟩) f3).trans (f4 j _ hs).2
     have q0:=(Below.cell HSa.out (p:=⟨b',o' + j * 2,none⟩) g3).trans (g4 j _ hs').1
     have q1:=(Below.cell HSa.out (p:=⟨b',o' + j * 2 + 1,none⟩) g3).trans (g4 j _ hs').2
     dsimp only at p0 p1 q0 q1
     have i1:(0:Int) <= (j:Int):=by omega
     have i2:(j:Int) < (n:Int):=by omega
     have hn9:n <= 9223372036854775807:=by unfold maxLen at f2; have h8:=HN.out; omega
     clear hv hv' f1 f2 f3 f4 g1 g2 g3 g4
     by_cases e9:t = t' /\ s = s'
     · obtain ⟨rfl,rfl⟩:=e9
       have HA2:Hid (L.take (j + 1) = L'.take (j + 1)):=lH (by rw [take_snoc L j _ hs,take_snoc L' j _ hs',HA.out])
       have x1:(t == t) = true:=beq_self_eq_true _
       have x2:(s.toList == s.toList) = true:=beq_self_eq_true _
       clear hs hs'
       go_wp2_with fail
       go_quiet (fail)
       go_wp2_with fail
       go_roundw
       case rel => exact ⟨j + 1,by omega,by go_num,HA2,lH (HSa.out.step (belowN _ _))⟩
       case measure => (simp [intOf] <;> omega)
     · have hne:L ≠ L':=take_ne L L' j _ _ hs hs' (fun h => e9 (by cases h; exact ⟨rfl,rfl⟩))
       obtain rfl:Q = false:=HQ.out.trans (decide_eq_false hne)
       clear hs hs' hne
       by_cases h:t = t'
       · subst h
         have x1:(t == t) = true:=beq_self_eq_true _
         have x2:(s.toList == s'.toList) = false:=str_ne_f (fun h2 => e9 ⟨rfl,h2⟩)
         clear e9
         go_wp2_with fail
         go_quiet (fail)
         go_wp2_with fail
         go_ret
         exact ⟨rfl,(HS.out.step HSa.out).step (belowN _ _)⟩
       · have x1:(t == t') = false:=beq_eq_false_iff_ne.2 h
         clear e9
         go_wp2_with fail
         go_quiet (fail)
         go_wp2_with fail
         go_ret
         exact ⟨rfl,(HS.out.step HSa.out).step (belowN _ _)⟩
   · obtain rfl:n = j:=by omega
     have h9:=HA.out
     rw [HN.out,List.take_length,<- HN.out,HN'.out,List.take_length] at h9
     obtain rfl:Q = true:=HQ.out.trans (decide_eq_true h9)
     clear h9
     go_wp2_with fail
     go_ret
     exact ⟨rfl,HS.out.step HSa.out⟩
def sameB (K:Int) (k u m v e:ByteArray) (L:List A2) (K':Int) (k' u' m' v' e':ByteArray) (L':List A2):Bool:=(K == K') && ((k.toList == k'.toList) && ((u.toList == u'.toList) && ((m.toList == m'.toList) && ((v.toList == v'.toList) && ((e.toList == e'.toList) && decide (L = L'))))))
theorem same_k (K:Int) (k u m v e:ByteArray) (L:List A2) (K':Int) (k' u' m' v' e':ByteArray) (L':List A2):SmeR 12 K k u m v e L K' k' u' m' v' e' L' (sameB K k u m v e L K' k' u' m' v' e' L'):=by
 unfold sameB
 cases t1:K == K' with
 | false => exact sm_1 K k u m v e L K' k' u' m' v' e' L' t1
 | true =>
   cases t2:k.toList == k'.toList with
   | false => exact sm_2 K k u m v e L K' k' u' m' v' e' L' t1 t2
   | true =>
     cases t3:u.toList == u'.toList with
     | false => exact sm_3 K k u m v e L K' k' u' m' v' e' L' t1 t2 t3
     | true =>
       cases t4:m.toList == m'.toList with
       | false => exact sm_4 K k u m v e L K' k' u' m' v' e' L' t1 t2 t3 t4
       | true =>
         cases t5:v.toList == v'.toList with
         | false => exact sm_5 K k u m v e L K' k' u' m' v' e' L' t1 t2 t3 t4 t5
         | true =>
           cases t6:e.toList == e'.toList with
           | false => exact sm_6 K k u m v e L K' k' u' m' v' e' L' t1 t2 t3 t4 t5 t6
           | true =>
             show SmeR _ K k u m v e L K' k' u' m' v' e' L' (decide (L = L'))
             exact sm_7 K k u m v e L K' k' u' m' v' e' L' t1 t2 t3 t4 t5 t6
theorem rsame_k (K:Int) (k u m v e:ByteArray) (L:List A2) (K':Int) (k' u' m' v' e':ByteArray) (L':List A2):SmeR 13 K k u m v e L K' k' u' m' v' e' L' (sameB K k u m v e L K' k' u' m' v' e' L'):=by
 unfold sameB
 cases t1:K == K' with
 | false => exact rsm_1 K k u m v e L K' k' u' m' v' e' L' t1
 | true =>
   cases t2:k.toList == k'.toList with
   | false => exact rsm_2 K k u m v e L K' k' u' m' v' e' L' t1 t2
   | true =>
     cases t3:u.toList == u'.toList with
     | false => exact rsm_3 K k u m v e L K' k' u' m' v' e' L' t1 t2 t3
     | true =>
       cases t4:m.toList == m'.toList with
       | false => exact rsm_4 K k u m v e L K' k' u' m' v' e' L' t1 t2 t3 t4
       | true =>
         cases t5:v.toList == v'.toList with
         | false => exact rsm_5 K k u m v e L K' k' u' m' v' e' L' t1 t2 t3 t4 t5
         | true =>
           cases t6:e.toList == e'.toList with
           | false => exact rsm_6 K k u m v e L K' k' u' m' v' e' L' t1 t2 t3 t4 t5 t6
           | true =>
             show SmeR _ K k u m v e L K' k' u' m' v' e' L' (decide (L = L'))
             exact (by by_cases hl:L.length = L'.length; exact rsm_8 K k u m v e L K' k' u' m' v' e' L' t1 t2 t3 t4 t5 t6 hl; rw [decide_eq_false (fun h:L = L' => hl (congrArg List.length h))]; exact rsm_7 K k u m v e L K' k' u' m' v' e' L' t1 t2 t3 t4 t5 t6 hl)
end Rcd
end Go.Proofs.YtfnmakelbijmkaaGreatDoor
