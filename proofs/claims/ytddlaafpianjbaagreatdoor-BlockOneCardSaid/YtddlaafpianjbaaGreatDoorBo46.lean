import Derived.Test.YtddlaafpianjbaaGreatDoorBo45
import Derived.Test.YtddlaafpianjbaaGreatDoorBo41
import Derived.Test.YtddlaafpianjbaaGreatDoorBo35
set_option maxRecDepth 100000
namespace Go.Proofs.YtddlaafpianjbaaGreatDoor
open Go.RowKit
namespace Block
open Att
def K3:World -> Prop:=fun w => Table.Tabs w /\ Kind.Tabs w /\ Curve.Tabs w
instance:Kp K3:=⟨fun h hb => ⟨Kp.keep h.1 hb,Kp.keep h.2.1 hb,Kp.keep h.2.2 hb⟩⟩
theorem K3.kh {w:World} (h:K3 w):Header.KH w:=⟨h.1,h.2.1⟩
theorem K3.t2 {w:World} (h:K3 w):Kind.Tab2 w:=h.2
def RdB (f:Nat) (L:List A2) (args:Value -> Array Value) (v:Value):Prop:=∀ w x,K3 w -> AttsS w x L -> Calls Tryz.prog f (args x) w fun e w' => e = .returned v /\ Below w.heap.size w w'
theorem RdB.calls0 {f:Nat} {L:List A2} {args:Value -> Array Value} {v x:Value} (h:RdB f L args v) {w:World} (hT:K3 w) (hx:AttsS w x L) {R:Ending -> World -> Prop} (k:∀ w',Since w w' -> R (.returned v) w'):Calls Tryz.prog f (args x) w R :=
 (h w x hT hx).mono fun _ _ ⟨he,hb⟩ => by subst he; exact k _ hb
structure BX (w:World) (g:Nat) (K:Int) (k u m v e:ByteArray) (x:Value) (L:List A2) (W:World):Prop where
 hb:HB w K3 g #[.int .i64 K,.string k,x,.string u,.string m,.string v,.string e] W
 atts:AttsS W x L
section
variable {w:World} {g:Nat} {K:Int} {k u m v e:ByteArray} {x:Value} {L:List A2} {W W':World}
theorem bxstep (hs:Since W W') (h:Hid (BX w g K k u m v e x L W)):Hid (BX w g K k u m v e x L W'):=lH ⟨h.out.hb.step hs,h.out.atts.since hs⟩
theorem bxdrew (h:Hid (BX w g K k u m v e x L W)):Hid (BX w g K k u m v e x L W.drew):=bxstep (Below.drew (Below.refl _ _)) h
theorem bx7 (h:Hid (BX w g K k u m v e x L W)):Hid (BX w g K k u m v e x L W) /\ W.cell? ⟨g,0,none⟩ = some (.int .i64 K) /\ W.cell? ⟨g,1,none⟩ = some (.string k) /\ W.cell? ⟨g,2,none⟩ = some x /\ W.cell? ⟨g,3,none⟩ = some (.string u) /\ W.cell? ⟨g,4,none⟩ = some (.string m) /\ W.cell? ⟨g,5,none⟩ = some (.string v) /\ W.cell? ⟨g,6,none⟩ = some (.string e) :=
 ⟨h,h.out.hb.cell 0 _ rfl,h.out.hb.cell 1 _ rfl,h.out.hb.cell 2 _ rfl,h.out.hb.cell 3 _ rfl,h.out.hb.cell 4 _ rfl,h.out.hb.cell 5 _ rfl,h.out.hb.cell 6 _ rfl⟩
theorem bx_new (hT:K3 w) (hx:AttsS w x L):BX w w.heap.size K k u m v e x L (w.alloc (.cells #[.int .i64 K,.string k,x,.string u,.string m,.string v,.string e] 26)) :=
 ⟨hb_new w K3 hT _ _,hx.since ((Since.refl w).alloc _)⟩
end
def LT (K:Int):ByteArray:=bs (Kind.rowOf K).2.2.1
def TT (K:Int):Int:=Load.tot (Kind.mostN (LT K).data.toList)
def headE (K:Int) (u m v e:ByteArray):Int:=if Table.okB u.data.toList m.data.toList v.data.toList e.data.toList (LT K).data.toList then 0 else 12
def chkI (K:Int) (k u m v e:ByteArray) (L:List A2):Int:=if Rec.recE K k L ≠ 0 then Rec.recE K k L else headE K u m v e
abbrev rv (K:Int) (k u m v e:ByteArray) (x:Value):Value:=.agg #[.int .i64 K,.string k,x,.string u,.string m,.string v,.string e]
set_option maxHeartbeats 2000000 in
theorem chk_b1 (K:Int) (k u m v e:ByteArray) (L:List A2) (E:Int) (hE:(E != 0) = true) (c1:Rec.RdR 51 L (fun x => #[rv K k u m v e x]) (.int .i64 E)):RdB 24 L (fun x => #[rv K k u m v e x]) (.int .i64 E):=by
 intro w x hT hx
 obtain ⟨A,q,rfl,hq1,hq2⟩:=hx.slice
 have hp:=lH (bx_new (K:=K) (k:=k) (u:=u) (m:=m) (v:=v) (e:=e) hT hx)
 obtain ⟨_,m0,m1,m2,m3,m4,m5,m6⟩:=bx7 hp
 clear hx hT
 go_enter Tryz.func24,Tryz.ntmps24
 go_wp2_with fail
 clear m0 m1 m2 m3 m4 m5 m6
 refine (c1.calls0 hp.out.hb.tabs.t2 hp.out.atts) ?_
 intro w1 h1
 replace hp:=bxstep (Up.up h1) hp
 clear h1
 go_wp2_with fail
 go_ret
 exact ⟨rfl,hp.out.hb.since⟩
set_option maxHeartbeats 2000000 in
theorem chk_b2 (K:Int) (k u m v e l:ByteArray) (L:List A2) (X:Int) (c1:Rec.RdR 51 L (fun x => #[rv K k u m v e x]) (.int .i64 0)) (c2:KMk Kind.Tabs 42 #[.int .i64 K] (.string l)) (c3:KMk Table.Tabs 52 #[.agg #[.string u,.string m,.string v,.string e],.string l] (.int .i64 X)):RdB 24 L (fun x => #[rv K k u m v e x]) (.int .i64 X):=by
 intro w x hT hx
 obtain ⟨A,q,rfl,hq1,hq2⟩:=hx.slice
 have hp:=lH (bx_new (K:=K) (k:=k) (u:=u) (m:=m) (v:=v) (e:=e) hT hx)
 obtain ⟨_,m0,m1,m2,m3,m4,m5,m6⟩:=bx7 hp
 clear hx hT
 go_enter Tryz.func24,Tryz.ntmps24
 go_wp2_with fail
 clear m0 m1 m2 m3 m4 m5 m6
 refine (c1.calls0 hp.out.hb.tabs.t2 hp.out.atts) ?_
 intro w1 h1
 replace hp:=bxstep (Up.up h1) hp
 clear h1
 go_wp2_with fail
 obtain ⟨_,m0,m1,m2,m3,m4,m5,m6⟩:=bx7 hp
 go_region_held3 (fun W' => Hid (BX w w.heap.size K k u m v e (.slice A L.length q) L W') /\ W'.cell? ⟨w.heap.size,0,none⟩ = some (.int .i64 K) /\ W'.cell? ⟨w.heap.size,1,none⟩ = some (.string k) /\ W'.cell? ⟨w.heap.size,2,none⟩ = some (.slice A L.length q) /\ W'.cell? ⟨w.heap.size,3,none⟩ = some (.string u) /\ W'.cell? ⟨w.heap.size,4,none⟩ = some (.string m) /\ W'.cell? ⟨w.heap.size,5,none⟩ = some (.string v) /\ W'.cell? ⟨w.heap.size,6,none⟩ = some (.string e))
   (first | exact bx7 (by assumption) | exact bx7 (bxdrew (by assumption)))
   (first
     | (go_at_call 42; refine c2.calls0 (Hid.out (by first | assumption | exact bxdrew (by assumption)):BX w w.heap.size K k u m v e (.slice A L.length q) L _).hb.tabs.2.1 ?_; intro w3 h3; have hp3:=bxstep h3 (by first | assumption | exact bxdrew (by assumption)); clear h3)
     | (go_at_call 52; refine c3.calls0 (Hid.out (by first | assumption | exact bxdrew (by assumption)):BX w w.heap.size K k u m v e (.slice A L.length q) L _).hb.tabs.1 ?_; intro w4 h4; have hp4:=bxstep h4 (by first | assumption | exact bxdrew (by assumption)); clear h4))
 all_goals
   clear m0 m1 m2 m3 m4 m5 m6
   go_wp2_with fail
   go_ret
   exact ⟨rfl,hp4.out.hb.since⟩
theorem check_b (K:Int) (k u m v e:ByteArray) (L:List A2) (hk:k.size <= 100000):RdB 24 L (fun x => #[rv K k u m v e x]) (.int .i64 (chkI K k u m v e L)):=by
 have c1:=Rec.check_rec K k u m v e L hk _ rfl
 unfold chkI
 by_cases h:Rec.recE K k L = 0
 · rw [if_neg (fun h2 => h2 h)]
   rw [h] at c1
   exact chk_b2 K k u m v e (LT K) L _ c1 (Kind.letter_k K _ rfl) (Table.check_k u m v e (LT K) _ rfl)
 · rw [if_pos h]
   exact chk_b1 K k u m v e L _ (by rw [bne_iff_ne]; exact h) c1
set_option maxHeartbeats 4000000 in
theorem top_core (K:Int) (k u m v e l:ByteArray) (L:List A2) (T:Int) (V:ByteArray) (E:Int) (c1:KMk Kind.Tabs 42 #[.int .i64 K] (.string l)) (c2:KMk Kind.Tab2 41 #[.string l] (.int .i64 T)) (c3:Frame.RdT l u m v e L T (.tuple #[.string V,.int .i64 E])):RdB 26 L (fun x => #[rv K k u m v e x]) (.tuple #[.string V,.int .i64 E]):=by
 intro w x hT hx
 obtain ⟨A,q,rfl,hq1,hq2⟩:=hx.slice
 have hp:=lH (bx_new (K:=K) (k:=k) (u:=u) (m:=m) (v:=v) (e:=e) hT hx)
 obtain ⟨_,m0,m1,m2,m3,m4,m5,m6⟩:=bx7 hp
 clear hx hT
 go_enter Tryz.func26,Tryz.ntmps26
 go_wp2_with fail
 clear m0 m1 m2 m3 m4 m5 m6
 refine (c1.calls0 hp.out.hb.tabs.2.1) ?_
 intro w1 h1
 replace hp:=bxstep (Up.up h1) hp
 clear h1
 go_wp2_with fail
 obtain ⟨_,m0,m1,m2,m3,m4,m5,m6⟩:=bx7 hp
 go_region_held3 (fun W' => Hid (BX w w.heap.size K k u m v e (.slice A L.length q) L W') /\ W'.cell? ⟨w.heap.size,0,none⟩ = some (.int .i64 K) /\ W'.cell? ⟨w.heap.size,1,none⟩ = some (.string k) /\ W'.cell? ⟨w.heap.size,2,none⟩ = some (.slice A L.length q) /\ W'.cell? ⟨w.heap.size,3,none⟩ = some (.string u) /\ W'.cell? ⟨w.heap.size,4,none⟩ = some (.string m) /\ W'.cell? ⟨w.heap.size,5,none⟩ = some (.string v) /\ W'.cell? ⟨w.heap.size,6,none⟩ = some (.string e))
   (first | exact bx7 (by assumption) | exact bx7 (bxdrew (by assumption)))
   (first
     | (go_at_call 41; refine c2.calls0 (Hid.out (by first | assumption | exact bxdrew (by assumption)):BX w w.heap.size K k u m v e (.slice A L.length q) L _).hb.tabs.t2 ?_; intro w3 h3; have hp3:=bxstep h3 (by first | assumption | exact bxdrew (by assumption)); clear h3)
     | (go_at_call 54; refine c3.calls0 (Hid.out (by first | assumption | exact bxdrew (by assumption)):BX w w.heap.size K k u m v e (.slice A L.length q) L _).hb.tabs.kh (Hid.out (by first | assumption | exact bxdrew (by assumption)):BX w w.heap.size K k u m v e (.slice A L.length q) L _).atts ?_; intro w4 h4; have hp4:=bxstep h4 (by first | assumption | exact bxdrew (by assumption)); clear h4))
 all_goals
   clear m0 m1 m2 m3 m4 m5 m6
   go_wp2_with fail
   go_ret2
   exact ⟨rfl,hp4.out.hb.since⟩
theorem top_b (K:Int) (k u m v e:ByteArray) (L:List A2) (hz:u.size <= 100 /\ m.size <= 100 /\ v.size <= 100 /\ e.size <= 100):RdB 26 L (fun x => #[rv K k u m v e x]) (.tuple #[.string (Frame.topX (LT K) u m v e L (TT K)),.int .i64 (Frame.topE (LT K) u m v e L (TT K))]) :=
 top_core K k u m v e (LT K) L (TT K) _ _ (Kind.letter_k K _ rfl) (Load.total_k (LT K) _ rfl) (Frame.top_any (LT K) u m v e L (TT K) hz)
end Block
namespace Block
open Att
def topV (K:Int) (u m v e:ByteArray) (L:List A2):ByteArray:=Frame.topX (LT K) u m v e L (TT K)
def topI (K:Int) (u m v e:ByteArray) (L:List A2):Int:=Frame.topE (LT K) u m v e L (TT K)
instance (k:ByteArray):Decidable (Aes.keyOk k):=by unfold Aes.keyOk; infer_instance
def expE (kek:ByteArray) (K:Int) (k u m v e:ByteArray) (L:List A2) (pads:ByteArray):Int :=
 if ¬ Aes.keyOk kek then 2 else if chkI K k u m v e L ≠ 0 then chkI K k u m v e L else if (pads.size:Int) ≠ Load.padsI (Kind.rowOf K) then 13 else topI K u m v e L
def expX (kek:ByteArray) (K:Int) (k u m v e:ByteArray) (L:List A2) (pads:ByteArray):ByteArray :=
 if expE kek K k u m v e L pads = 0 then Frame.joinX (topV K u m v e L) (Seal.cipK kek (topV K u m v e L) (Load.PLD k pads)) (Seal.bindK kek (topV K u m v e L) (Load.PLD k pads)) else ⟨#[]⟩
def RdE (f:Nat) (kek pads:ByteArray) (K:Int) (k u m v e:ByteArray) (L:List A2) (V:Value):Prop:=RdB f L (fun x => #[.string kek,rv K k u m v e x,.string pads]) V
section
variable (kek pads:ByteArray) (K:Int) (k u m v e:ByteArray) (L:List A2) (R:Int)
set_option maxHeartbeats 2000000 in
theorem ex_key (c0:Ret 23 #[.int .i64 (kek.size:Int)] (.int .i64 R)) (h0:(R == 0) = true):RdE 8 kek pads K k u m v e L (.tuple #[.string ⟨#[]⟩,.int .i64 2]):=by
 intro w x hT hx
 obtain ⟨A,q,rfl,hq1,hq2⟩:=hx.slice
 have hp:=lH (bx_new (K:=K) (k:=k) (u:=u) (m:=m) (v:=v) (e:=e) hT hx)
 obtain ⟨_,m0,m1,m2,m3,m4,m5,m6⟩:=bx7 hp
 clear hx hT
 go_enter Tryz.func8,Tryz.ntmps8
 go_wp2_with fail
 refine wp_scope_some 1 ?_
 go_wp2_with fail
 clear m0 m1 m2 m3 m4 m5 m6
 refine c0.calls ?_
 obtain ⟨_,m0,m1,m2,m3,m4,m5,m6⟩:=bx7 hp
 go_wp2_with fail
 clear m0 m1 m2 m3 m4 m5 m6
 go_step3
 refine ⟨_,rfl, ?_⟩
 go_wp2_with fail
 go_ret2
 exact ⟨rfl,hp.out.hb.since⟩
set_option maxHeartbeats 2000000 in
theorem ex_chk (c0:Ret 23 #[.int .i64 (kek.size:Int)] (.int .i64 R)) (h0:(R == 0) = false) (E:Int) (_hE:(E == 0) = false) (hE2:(E != 0) = true) (c1:RdB 24 L (fun x => #[rv K k u m v e x]) (.int .i64 E)):RdE 8 kek pads K k u m v e L (.tuple #[.string ⟨#[]⟩,.int .i64 E]):=by
 intro w x hT hx
 obtain ⟨A,q,rfl,hq1,hq2⟩:=hx.slice
 have hp:=lH (bx_new (K:=K) (k:=k) (u:=u) (m:=m) (v:=v) (e:=e) hT hx)
 obtain ⟨_,m0,m1,m2,m3,m4,m5,m6⟩:=bx7 hp
 clear hx hT
 go_enter Tryz.func8,Tryz.ntmps8
 go_wp2_with fail
 refine wp_scope_some 1 ?_
 go_wp2_with fail
 clear m0 m1 m2 m3 m4 m5 m6
 refine c0.calls ?_
 obtain ⟨_,m0,m1,m2,m3,m4,m5,m6⟩:=bx7 hp
 go_wp2_with fail
 clear m0 m1 m2 m3 m4 m5 m6
 refine (c1.calls0 hp.out.hb.tabs hp.out.atts) ?_
 intro w1 h1
 replace hp:=bxstep (Up.up h1) hp
 clear h1
 obtain ⟨_,m0,m1,m2,m3,m4,m5,m6⟩:=bx7 hp
 go_wp2_with fail
 clear m0 m1 m2 m3 m4 m5 m6
 go_step3
 refine ⟨_,rfl, ?_⟩
 go_wp2_with fail
 go_ret2
 exact ⟨rfl,hp.out.hb.since⟩
set_option maxHeartbeats 2000000 in
theorem ex_pad (c0:Ret 23 #[.int .i64 (kek.size:Int)] (.int .i64 R)) (h0:(R == 0) = false) (c1:RdB 24 L (fun x => #[rv K k u m v e x]) (.int .i64 0)) (Z:Int) (c2:KMk Kind.Tab2 25 #[.int .i64 K] (.int .i64 Z)) (hZ:((pads.size:Int) != Z) = true) (_hZ2:((pads.size:Int) == Z) = false):RdE 8 kek pads K k u m v e L (.tuple #[.string ⟨#[]⟩,.int .i64 13]):=by
 intro w x hT hx
 obtain ⟨A,q,rfl,hq1,hq2⟩:=hx.slice
 have hp:=lH (bx_new (K:=K) (k:=k) (u:=u) (m:=m) (v:=v) (e:=e) hT hx)
 obtain ⟨_,m0,m1,m2,m3,m4,m5,m6⟩:=bx7 hp
 clear hx hT
 go_enter Tryz.func8,Tryz.ntmps8
 go_wp2_with fail
 refine wp_scope_some 1 ?_
 go_wp2_with fail
 clear m0 m1 m2 m3 m4 m5 m6
 refine c0.calls ?_
 obtain ⟨_,m0,m1,m2,m3,m4,m5,m6⟩:=bx7 hp
 go_wp2_with fail
 clear m0 m1 m2 m3 m4 m5 m6
 refine (c1.calls0 hp.out.hb.tabs hp.out.atts) ?_
 intro w1 h1
 replace hp:=bxstep (Up.up h1) hp
 clear h1
 obtain ⟨_,m0,m1,m2,m3,m4,m5,m6⟩:=bx7 hp
 go_wp2_with fail
 clear m0 m1 m2 m3 m4 m5 m6
 refine (c2.calls0 hp.out.hb.tabs.t2) ?_
 intro w2 h2
 replace hp:=bxstep (Up.up h2) hp
 clear h2
 obtain ⟨_,m0,m1,m2,m3,m4,m5,m6⟩:=bx7 hp
 go_wp2_with fail
 clear m0 m1 m2 m3 m4 m5 m6
 go_step3
 refine ⟨_,rfl, ?_⟩
 go_wp2_with fail
 go_ret2
 exact ⟨rfl,hp.out.hb.since⟩
set_option maxHeartbeats 2000000 in
theorem ex_top (c0:Ret 23 #[.int .i64 (kek.size:Int)] (.int .i64 R)) (h0:(R == 0) = false) (c1:RdB 24 L (fun x => #[rv K k u m v e x]) (.int .i64 0)) (Z:Int) (c2:KMk Kind.Tab2 25 #[.int .i64 K] (.int .i64 Z)) (hZ:((pads.size:Int) != Z) = false) (_hZ2:((pads.size:Int) == Z) = true)
   (T:ByteArray) (E:Int) (_hE:(E == 0) = false) (hE2:(E != 0) = true) (c3:RdB 26 L (fun x => #[rv K k u m v e x]) (.tuple #[.string T,.int .i64 E])):RdE 8 kek pads K k u m v e L (.tuple #[.string ⟨#[]⟩,.int .i64 E]):=by
 intro w x hT hx
 obtain ⟨A,q,rfl,hq1,hq2⟩:=hx.slice
 have hp:=lH (bx_new (K:=K) (k:=k) (u:=u) (m:=m) (v:=v) (e:=e) hT hx)
 obtain ⟨_,m0,m1,m2,m3,m4,m5,m6⟩:=bx7 hp
 clear hx hT
 go_enter Tryz.func8,Tryz.ntmps8
 go_wp2_with fail
 refine wp_scope_some 1 ?_
 go_wp2_with fail
 clear m0 m1 m2 m3 m4 m5 m6
 refine c0.calls ?_
 obtain ⟨_,m0,m1,m2,m3,m4,m5,m6⟩:=bx7 hp
 go_wp2_with fail
 clear m0 m1 m2 m3 m4 m5 m6
 refine (c1.calls0 hp.out.hb.tabs hp.out.atts) ?_
 intro w1 h1
 replace hp:=bxstep (Up.up h1) hp
 clear h1
 obtain ⟨_,m0,m1,m2,m3,m4,m5,m6⟩:=bx7 hp
 go_wp2_with fail
 clear m0 m1 m2 m3 m4 m5 m6
 refine (c2.calls0 hp.out.hb.tabs.t2) ?_
 intro w2 h2
 replace hp:=bxstep (Up.up h2) hp
 clear h2
 obtain ⟨_,m0,m1,m2,m3,m4,m5,m6⟩:=bx7 hp
 go_wp2_with fail
 clear m0 m1 m2 m3 m4 m5 m6
 refine (c3.calls0 hp.out.hb.tabs hp.out.atts) ?_
 intro w3 h3
 replace hp:=bxstep (Up.up h3) hp
 clear h3
 obtain ⟨_,m0,m1,m2,m3,m4,m5,m6⟩:=bx7 hp
 go_wp2_with fail
 clear m0 m1 m2 m3 m4 m5 m6
 go_step3
 refine ⟨_,rfl, ?_⟩
 go_wp2_with fail
 go_ret2
 exact ⟨rfl,hp.out.hb.since⟩
set_option maxHeartbeats 2000000 in
theorem ex_ok (c0:Ret 23 #[.int .i64 (kek.size:Int)] (.int .i64 R)) (h0:(R == 0) = false) (c1:RdB 24 L (fun x => #[rv K k u m v e x]) (.int .i64 0)) (Z:Int) (c2:KMk Kind.Tab2 25 #[.int .i64 K] (.int .i64 Z)) (hZ:((pads.size:Int) != Z) = false) (_hZ2:((pads.size:Int) == Z) = true)
   (T P C G J:ByteArray) (c3:RdB 26 L (fun x => #[rv K k u m v e x]) (.tuple #[.string T,.int .i64 0])) (c4:KMk Kind.Tab2 27 #[.int .i64 K,.string k,.string pads] (.tuple #[.string P,.int .i64 0]))
   (c5:Mak 28 #[.string kek,.string T,.string P] (.tuple #[.string C,.string G,.int .i64 0])) (c6:Mak 29 #[.string T,.string C,.string G] (.string J)):RdE 8 kek pads K k u m v e L (.tuple #[.string J,.int .i64 0]):=by
 intro w x hT hx
 obtain ⟨A,q,rfl,hq1,hq2⟩:=hx.slice
 have hp:=lH (bx_new (K:=K) (k:=k) (u:=u) (m:=m) (v:=v) (e:=e) hT hx)
 obtain ⟨_,m0,m1,m2,m3,m4,m5,m6⟩:=bx7 hp
 clear hx hT
 go_enter Tryz.func8,Tryz.ntmps8
 go_wp2_with fail
 refine wp_scope_some 1 ?_
 go_wp2_with fail
 clear m0 m1 m2 m3 m4 m5 m6
 refine c0.calls ?_
 obtain ⟨_,m0,m1,m2,m3,m4,m5,m6⟩:=bx7 hp
 go_wp2_with fail
 clear m0 m1 m2 m3 m4 m5 m6
 refine (c1.calls0 hp.out.hb.tabs hp.out.atts) ?_
 intro w1 h1
 replace hp:=bxstep (Up.up h1) hp
 clear h1
 obtain ⟨_,m0,m1,m2,m3,m4,m5,m6⟩:=bx7 hp
 go_wp2_with fail
 clear m0 m1 m2 m3 m4 m5 m6
 refine (c2.calls0 hp.out.hb.tabs.t2) ?_
 intro w2 h2
 replace hp:=bxstep (Up.up h2) hp
 clear h2
 obtain ⟨_,m0,m1,m2,m3,m4,m5,m6⟩:=bx7 hp
 go_wp2_with fail
 clear m0 m1 m2 m3 m4 m5 m6
 refine (c3.calls0 hp.out.hb.tabs hp.out.atts) ?_
 intro w3 h3
 replace hp:=bxstep (Up.up h3) hp
 clear h3
 obtain ⟨_,m0,m1,m2,m3,m4,m5,m6⟩:=bx7 hp
 go_wp2_with fail
 clear m0 m1 m2 m3 m4 m5 m6
 refine (c4.calls0 hp.out.hb.tabs.t2) ?_
 intro w4 h4
 replace hp:=bxstep (Up.up h4) hp
 clear h4
 obtain ⟨_,m0,m1,m2,m3,m4,m5,m6⟩:=bx7 hp
 go_wp2_with fail
 clear m0 m1 m2 m3 m4 m5 m6
 refine (c5.calls0) ?_
 intro w5 h5
 replace hp:=bxstep (Up.up h5) hp
 clear h5
 obtain ⟨_,m0,m1,m2,m3,m4,m5,m6⟩:=bx7 hp
 go_wp2_with fail
 clear m0 m1 m2 m3 m4 m5 m6
 refine (c6.calls0) ?_
 intro w6 h6
 replace hp:=bxstep (Up.up h6) hp
 clear h6
 obtain ⟨_,m0,m1,m2,m3,m4,m5,m6⟩:=bx7 hp
 go_wp2_with fail
 clear m0 m1 m2 m3 m4 m5 m6
 simp only [Exit.jumps]
 go_ret2
 exact ⟨rfl,hp.out.hb.since⟩
end
theorem tt_fit (K:Int) (k:ByteArray) (pads:ByteArray) (h0:Kind.chkE (Kind.rowOf K) k.data.toList = 0) (h1:(pads.size:Int) = Load.padsI (Kind.rowOf K)):((Load.PLD k pads).size:Int) = TT K /\ (TT K = 48 ∨ TT K = 32 ∨ TT K = 80) /\ Seal.payOk (Load.PLD k pads) /\ (Load.PLD k pads).size <= 80:=by
 obtain ⟨a1,a2⟩:=Load.chk_size _ _ h0
 have e1:(k.data.toList.length:Int) = (k.size:Int):=rfl
 have e2:=Load.pld_size k pads
 unfold Load.padsI at h1
 rw [if_neg a1] at h1
 have e3:TT K = Load.tot (Kind.mostN (Kind.rowOf K).2.2.1):=by unfold TT LT; rw [list_bs]
 have e4:((Load.PLD k pads).size:Int) = TT K:=by rw [e2,e3]; omega
 have e5:TT K = 48 ∨ TT K = 32 ∨ TT K = 80:=by
   rw [e3]
   unfold Load.tot
   by_cases hz:Kind.mostN (Kind.rowOf K).2.2.1 = 0
   · have h9:TT K = 0:=by rw [e3]; unfold Load.tot; rw [if_pos hz]
     rw [h9] at e4
     omega
   · rw [if_neg hz]
     split
     · exact .inl rfl
     · split
       · exact .inr (.inl rfl)
       · exact .inr (.inr rfl)
 refine ⟨e4,e5,⟨by omega,by omega⟩,by omega⟩
theorem top_small (K:Int) (u m v e:ByteArray) (L:List A2) (h:topI K u m v e L = 0):(topV K u m v e L).size <= 9999:=by
 have ht:=Frame.top_ok_iff _ _ _ _ _ _ _ h
 have h1:=ht.z9
 have h2:=ht.inN
 unfold topV
 have hX:Frame.topX (LT K) u m v e L (TT K) = Header.encX (Frame.topN L (TT K)) (Opt.packN (Templ.oL L)) (LT K) u m v e ++ Frame.pk L:=by unfold Frame.topX; rw [if_pos (show Frame.topE (LT K) u m v e L (TT K) = 0 from h)]
 obtain ⟨z1,-,-⟩:=Header.dec_enc (Frame.topN L (TT K)) (Opt.packN (Templ.oL L)) (LT K) u m v e ⟨#[]⟩ h2 ht.ok
 have h16:=ht.n16
 rw [hX,ByteArray.size_append,z1]
 unfold Frame.topN at h1
 omega
theorem cip_size (kek top pay:ByteArray) (h:Seal.payOk pay):(Seal.cipK kek top pay).size = pay.size:=by
 have h1:=h.1
 unfold Seal.cipK Cbc.encC
 rw [size_bs,Cbc.chainE_len _ (Aes.encK_size _)]
 omega
theorem export_b (kek pads:ByteArray) (K:Int) (k u m v e:ByteArray) (L:List A2) (hk:k.size <= 100) (hp:pads.size <= 200) (hkk:kek.size <= 100) (hz:u.size <= 100 /\ m.size <= 100 /\ v.size <= 100 /\ e.size <= 100):RdE 8 kek pads K k u m v e L (.tuple #[.string (expX kek K k u m v e L pads),.int .i64 (expE kek K k u m v e L pads)]):=by
 have c1:=check_b K k u m v e L (by omega)
 have c2:=Load.pads_k K _ rfl
 have c3:=top_b K k u m v e L hz
 unfold expX
 by_cases h0:Aes.keyOk kek
 · have d0:=Sched.rounds_yes kek.size h0 _ rfl
   have h01:(((kek.size / 4 + 6:Nat):Int) == 0) = false:=by rw [beq_eq_false_iff_ne]; omega
   by_cases h1:chkI K k u m v e L = 0
   · rw [h1] at c1
     by_cases h2:(pads.size:Int) = Load.padsI (Kind.rowOf K)
     · have g1:((pads.size:Int) != Load.padsI (Kind.rowOf K)) = false:=by rw [bne_eq_false_iff_eq]; exact h2
       have g2:((pads.size:Int) == Load.padsI (Kind.rowOf K)) = true:=by rw [beq_iff_eq]; exact h2
       have hE:expE kek K k u m v e L pads = topI K u m v e L:=by
         unfold expE
         rw [if_neg (fun h => h h0),if_neg (fun h => h h1),if_neg (fun h => h h2)]
       by_cases h3:topI K u m v e L = 0
       · rw [hE,if_pos h3,h3]
         have c3':RdB 26 L (fun x => #[rv K k u m v e x]) (.tuple #[.string (topV K u m v e L),.int .i64 0]):=by
           have h:=c3
           rw [show Frame.topE (LT K) u m v e L (TT K) = 0 from h3] at h
           exact h
         have h4:Kind.chkE (Kind.rowOf K) k.data.toList = 0:=by
           unfold chkI Rec.recE at h1
           by_cases h5:Kind.chkE (Kind.rowOf K) k.data.toList = 0
           · exact h5
           · rw [if_pos h5,if_pos h5] at h1
             exact absurd h1 h5
         obtain ⟨t1,t2,t3,t4⟩:=tt_fit K k pads h4 h2
         have c4:=(Load.make_yes K k pads (by omega) (by omega) h4 h2).1
         have hts:=top_small K u m v e L h3
         have c5:=Seal.seal_yes kek (topV K u m v e L) (Load.PLD k pads) h0 t3 (by omega) _ _ rfl rfl
         have hc:(Seal.cipK kek (topV K u m v e L) (Load.PLD k pads)).size <= 100000:=by rw [cip_size _ _ _ t3]; omega
         have hb:(Seal.bindK kek (topV K u m v e L) (Load.PLD k pads)).size <= 100000:=by rw [Seal.bindK_size]; decide
         exact ex_ok kek pads K k u m v e L _ d0 h01 c1 _ c2 g1 g2 _ _ _ _ _ c3' c4 c5 (Frame.join_mak _ _ _ (by omega) hc hb)
       · rw [hE,if_neg h3]
         exact ex_top kek pads K k u m v e L _ d0 h01 c1 _ c2 g1 g2 _ _ (by rw [beq_eq_false_iff_ne]; exact h3) (by rw [bne_iff_ne]; exact h3) c3
     · have hE:expE kek K k u m v e L pads = 13:=by
         unfold expE
         rw [if_neg (fun h => h h0),if_neg (fun h => h h1),if_pos h2]
       rw [hE,if_neg (by decide)]
       exact ex_pad kek pads K k u m v e L _ d0 h01 c1 _ c2 (by rw [bne_iff_ne]; exact h2) (by rw [beq_eq_false_iff_ne]; exact h2)
   · have hE:expE kek K k u m v e L pads = chkI K k u m v e L:=by
       unfold expE
       rw [if_neg (fun h => h h0),if_pos h1]
     rw [hE,if_neg h1]
     exact ex_chk kek pads K k u m v e L _ d0 h01 _ (by rw [beq_eq_false_iff_ne]; exact h1) (by rw [bne_iff_ne]; exact h1) c1
 · have hE:expE kek K k u m v e L pads = 2:=by unfold expE; rw [if_pos h0]
   rw [hE,if_neg (by decide)]
   unfold Aes.keyOk at h0
   exact ex_key kek pads K k u m v e L _ (Sched.rounds_no _ ⟨by omega,by omega,by omega⟩) rfl
def sizI (K:Int) (k u m v e:ByteArray) (L:List A2):Int:=if chkI K k u m v e L ≠ 0 then 0 else if topI K u m v e L ≠ 0 then 0 else ((topV K u m v e L).size:Int) + 2 * TT K + 32
section
variable (K:Int) (k u m v e:ByteArray) (L:List A2)
theorem sz_chk (E:Int) (hE2:(E != 0) = true) (c1:RdB 24 L (fun x => #[rv K k u m v e x]) (.int .i64 E)):RdB 13 L (fun x => #[rv K k u m v e x]) (.int .i64 0):=by
 intro w x hT hx
 obtain ⟨A,q,rfl,hq1,hq2⟩:=hx.slice
 have hp:=lH (bx_new (K:=K) (k:=k) (u:=u) (m:=m) (v:=v) (e:=e) hT hx)
 obtain ⟨_,m0,m1,m2,m3,m4,m5,m6⟩:=bx7 hp
 clear hx hT
 go_enter Tryz.func13,Tryz.ntmps13
 go_wp2_with fail
 clear m0 m1 m2 m3 m4 m5 m6
 refine (c1.calls0 hp.out.hb.tabs hp.out.atts) ?_
 intro w1 h1
 replace hp:=bxstep (Up.up h1) hp
 clear h1
 obtain ⟨_,m0,m1,m2,m3,m4,m5,m6⟩:=bx7 hp
 go_wp2_with fail
 clear m0 m1 m2 m3 m4 m5 m6
 go_ret
 exact ⟨rfl,hp.out.hb.since⟩
theorem sz_top (c1:RdB 24 L (fun x => #[rv K k u m v e x]) (.int .i64 0)) (T:ByteArray) (E:Int) (hE2:(E != 0) = true) (c3:RdB 26 L (fun x => #[rv K k u m v e x]) (.tuple #[.string T,.int .i64 E])):RdB 13 L (fun x => #[rv K k u m v e x]) (.int .i64 0):=by
 intro w x hT hx
 obtain ⟨A,q,rfl,hq1,hq2⟩:=hx.slice
 have hp:=lH (bx_new (K:=K) (k:=k) (u:=u) (m:=m) (v:=v) (e:=e) hT hx)
 obtain ⟨_,m0,m1,m2,m3,m4,m5,m6⟩:=bx7 hp
 clear hx hT
 go_enter Tryz.func13,Tryz.ntmps13
 go_wp2_with fail
 clear m0 m1 m2 m3 m4 m5 m6
 refine (c1.calls0 hp.out.hb.tabs hp.out.atts) ?_
 intro w1 h1
 replace hp:=bxstep (Up.up h1) hp
 clear h1
 obtain ⟨_,m0,m1,m2,m3,m4,m5,m6⟩:=bx7 hp
 go_wp2_with fail
 clear m0 m1 m2 m3 m4 m5 m6
 refine (c3.calls0 hp.out.hb.tabs hp.out.atts) ?_
 intro w2 h2
 replace hp:=bxstep (Up.up h2) hp
 clear h2
 obtain ⟨_,m0,m1,m2,m3,m4,m5,m6⟩:=bx7 hp
 go_wp2_with fail
 clear m0 m1 m2 m3 m4 m5 m6
 go_ret
 exact ⟨rfl,hp.out.hb.since⟩
set_option maxHeartbeats 2000000 in
theorem sz_ok (c1:RdB 24 L (fun x => #[rv K k u m v e x]) (.int .i64 0)) (T l:ByteArray) (c3:RdB 26 L (fun x => #[rv K k u m v e x]) (.tuple #[.string T,.int .i64 0])) (c4:KMk Kind.Tabs 42 #[.int .i64 K] (.string l)) (n:Int) (c5:KMk Kind.Tab2 41 #[.string l] (.int .i64 n)) (hn:0 <= n /\ n <= 100) (hT:T.size <= 9999) :
   RdB 13 L (fun x => #[rv K k u m v e x]) (.int .i64 ((T.size:Int) + 2 * n + 32)):=by
 have e1:IntKind.i64.wrap (2 * n) = 2 * n:=IntWalk.i64_in _ (by omega)
 have e2:IntKind.i64.wrap ((T.size:Int) + 2 * n) = (T.size:Int) + 2 * n:=IntWalk.i64_in _ (by omega)
 have e3:IntKind.i64.wrap ((T.size:Int) + 2 * n + 32) = (T.size:Int) + 2 * n + 32:=IntWalk.i64_in _ (by omega)
 intro w x hT hx
 obtain ⟨A,q,rfl,hq1,hq2⟩:=hx.slice
 have hp:=lH (bx_new (K:=K) (k:=k) (u:=u) (m:=m) (v:=v) (e:=e) hT hx)
 obtain ⟨_,m0,m1,m2,m3,m4,m5,m6⟩:=bx7 hp
 clear hx hT
 go_enter Tryz.func13,Tryz.ntmps13
 go_wp2_with fail
 clear m0 m1 m2 m3 m4 m5 m6
 refine (c1.calls0 hp.out.hb.tabs hp.out.atts) ?_
 intro w1 h1
 replace hp:=bxstep (Up.up h1) hp
 clear h1
 obtain ⟨_,m0,m1,m2,m3,m4,m5,m6⟩:=bx7 hp
 go_wp2_with fail
 clear m0 m1 m2 m3 m4 m5 m6
 refine (c3.calls0 hp.out.hb.tabs hp.out.atts) ?_
 intro w2 h2
 replace hp:=bxstep (Up.up h2) hp
 clear h2
 obtain ⟨_,m0,m1,m2,m3,m4,m5,m6⟩:=bx7 hp
 go_wp2_with fail
 clear m0 m1 m2 m3 m4 m5 m6
 refine (c4.calls0 hp.out.hb.tabs.2.1) ?_
 intro w3 h3
 replace hp:=bxstep (Up.up h3) hp
 clear h3
 go_wp2_with fail
 refine (c5.calls0 hp.out.hb.tabs.t2) ?_
 intro w4 h4
 replace hp:=bxstep (Up.up h4) hp
 clear h4
 go_wp2_with fail
 go_ret
 exact ⟨rfl,hp.out.hb.since⟩
end
theorem tt_bound (K:Int):0 <= TT K /\ TT K <= 100:=by
 unfold TT Load.tot
 split
 · omega
 · split
   · omega
   · split <;> omega
theorem size_b (K:Int) (k u m v e:ByteArray) (L:List A2) (hk:k.size <= 100) (hz:u.size <= 100 /\ m.size <= 100 /\ v.size <= 100 /\ e.size <= 100):RdB 13 L (fun x => #[rv K k u m v e x]) (.int .i64 (sizI K k u m v e L)):=by
 have c1:=check_b K k u m v e L (by omega)
 have c3:=top_b K k u m v e L hz
 unfold sizI
 by_cases h1:chkI K k u m v e L = 0
 · rw [if_neg (fun h => h h1)]
   rw [h1] at c1
   by_cases h3:topI K u m v e L = 0
   · rw [if_neg (fun h => h h3)]
     have c3':RdB 26 L (fun x => #[rv K k u m v e x]) (.tuple #[.string (topV K u m v e L),.int .i64 0]):=by
       have h:=c3
       rw [show Frame.topE (LT K) u m v e L (TT K) = 0 from h3] at h
       exact h
     exact sz_ok K k u m v e L c1 _ (LT K) c3' (Kind.letter_k K _ rfl) (TT K) (Load.total_k (LT K) _ rfl) (tt_bound K) (top_small K u m v e L h3)
   · rw [if_pos h3]
     exact sz_top K k u m v e L c1 _ _ (by rw [bne_iff_ne]; exact h3) c3
 · rw [if_pos h1]
   exact sz_chk K k u m v e L _ (by rw [bne_iff_ne]; exact h1) c1
end Block
namespace Block
open Att
def Z7:Array Value:=#[.int .i64 0,.string ⟨#[]⟩,.slice none 0 0,.string ⟨#[]⟩,.string ⟨#[]⟩,.string ⟨#[]⟩,.string ⟨#[]⟩]
def R7 (K:Int) (k u m v e:ByteArray) (x:Value):Array Value:=#[.int .i64 K,.string k,x,.string u,.string m,.string v,.string e]
theorem z7_info:(Tryz.prog.info? 26).map (·.size) = some Z7.size:=by kernel_rfl
theorem r7_info (K:Int) (k u m v e:ByteArray) (x:Value):(Tryz.prog.info? 26).map (·.size) = some (R7 K k u m v e x).size:=by kernel_rfl
theorem z7_one:Z7.all (·.oneCell') = true:=by
 rw [Array.all_eq_true]
 intro i hi
 match i,hi with
 | 0,_ | 1,_ | 2,_ | 3,_ | 4,_ | 5,_ | 6,_ => rfl
theorem r7_one (K:Int) (k u m v e:ByteArray) (A:Option Addr) (n q:Nat):(R7 K k u m v e (.slice A n q)).all (·.oneCell') = true:=by
 rw [Array.all_eq_true]
 intro i hi
 match i,hi with
 | 0,_ | 1,_ | 2,_ | 3,_ | 4,_ | 5,_ | 6,_ => rfl
theorem results_c_t_t {P:Program} {fn:Func} {p u x:Tmp} {ty:TypeId} (h:fn.results = #[.cell p ty,.tmp u,.tmp x]) (tmps:Array Value) (w:World) (g:Nat) (t:TypeId) (cs:Array Value) (fr:Nat × Nat) (d:TypeDesc) (v z:Value)
   (hp:tmps.getD p undef = .pointer (some ⟨g,0,none⟩)) (hv:tmps.getD u undef = v) (hz:tmps.getD x undef = z) (hg:w.heap[g]? = some (.cells cs t fr))
   (hu:P.underlying ty = some d) (hd:(match d with | .struct _ | .array _ _ => true | _ => false) = true) (hi:(P.info? ty).map (·.size) = some cs.size) :
   (results fn tmps).run P w = .ok (.tuple #[.agg cs,v,z]) w:=by
 subst hv hz
 have hp':tmps[p]?.getD undef = .pointer (some ⟨g,0,none⟩):=by simpa using hp
 simp [results,h,hp',asAddr,run_loadVar_row w g t ty cs fr d hg hu hd hi]
def noR (E:Int):Value:=.tuple #[.agg Z7,.string ⟨#[]⟩,.int .i64 E]
structure IP (w:World) (F:Array Value) (W:World):Prop where
 r1:W.heap[w.heap.size]? = some (.cells Z7 26 (0,0))
 r2:W.heap[w.heap.size + 1]? = some (.cells F 53 (0,0))
 r3:W.heap[w.heap.size + 1 + 1]? = some (.cells Z7 26 (0,0))
 since:Since w W
 tabs:K3 W
theorem IP.step {w:World} {F:Array Value} {W W':World} (h:IP w F W) (hb:Since W W'):IP w F W' :=
 ⟨(Below.block hb _ (Array.getElem?_eq_some_iff.1 h.r1).1).trans h.r1,(Below.block hb _ (Array.getElem?_eq_some_iff.1 h.r2).1).trans h.r2,(Below.block hb _ (Array.getElem?_eq_some_iff.1 h.r3).1).trans h.r3,h.since.step hb,Kp.keep h.tabs hb⟩
theorem ip_new (w:World) (hT:K3 w):IP w Frame.Z9 (((w.alloc (.cells Z7 26)).alloc (.cells Frame.Z9 53)).alloc (.cells Z7 26)):=by
 have e1:(w.alloc (.cells Z7 26)).heap.size = w.heap.size + 1:=by simp
 have e2:((w.alloc (.cells Z7 26)).alloc (.cells Frame.Z9 53)).heap.size = w.heap.size + 1 + 1:=by simp
 refine ⟨?_, ?_, ?_,((Since.refl w).alloc _).alloc _ |>.alloc _,Kp.keep hT (((Since.refl w).alloc _).alloc _ |>.alloc _)⟩
 · rw [heap_alloc_old _ _ (by rw [e2]; omega),heap_alloc_old _ _ (by rw [e1]; omega),heap_alloc_new]
 · rw [heap_alloc_old _ _ (by rw [e2]; omega),<- e1,heap_alloc_new]
 · rw [<- e2,heap_alloc_new]
theorem IP.frame {w:World} {F:Array Value} {W:World} (h:IP w F W) (F':Array Value) (hT:K3 w):IP w F' (W.setRow (w.heap.size + 1) F'):=by
 refine ⟨(setRow_other _ _ _ _ (by omega)).trans h.r1,setRow_heap _ _ _ _ _ _ h.r2,(setRow_other _ _ _ _ (by omega)).trans h.r3,below_setRow h.since (by omega) _,Kp.keep hT (below_setRow h.since (by omega) _)⟩
structure JP (w:World) (C:Array Value) (W:World):Prop where
 r1:W.heap[w.heap.size]? = some (.cells Z7 26 (0,0))
 r3:W.heap[w.heap.size + 1 + 1]? = some (.cells C 26 (0,0))
 since:Since w W
 tabs:K3 W
theorem IP.jp {w:World} {F:Array Value} {W:World} (h:IP w F W):JP w Z7 W:=⟨h.r1,h.r3,h.since,h.tabs⟩
theorem JP.step {w:World} {C:Array Value} {W W':World} (h:JP w C W) (hb:Since W W'):JP w C W' :=
 ⟨(Below.block hb _ (Array.getElem?_eq_some_iff.1 h.r1).1).trans h.r1,(Below.block hb _ (Array.getElem?_eq_some_iff.1 h.r3).1).trans h.r3,h.since.step hb,Kp.keep h.tabs hb⟩
theorem JP.row {w:World} {C:Array Value} {W:World} (h:JP w C W) (C':Array Value) (hT:K3 w):JP w C' (W.setRow (w.heap.size + 1 + 1) C') :=
 ⟨(setRow_other _ _ _ _ (by omega)).trans h.r1,setRow_heap _ _ _ _ _ _ h.r3,below_setRow h.since (by omega) _,Kp.keep hT (below_setRow h.since (by omega) _)⟩
theorem JP.set {w:World} {C:Array Value} {W:World} (h:JP w C W) (i:Nat) (v:Value) (C':Array Value) (hC:C.setIfInBounds i v = C') (hT:K3 w):JP w C' (W.setCell ⟨w.heap.size + 1 + 1,i,none⟩ v):=by
 subst hC
 have hs:Since w (W.setCell ⟨w.heap.size + 1 + 1,i,none⟩ v):=Below.setCell (p:=⟨w.heap.size + 1 + 1,i,none⟩) h.since (by show w.heap.size <= w.heap.size + 1 + 1; omega) _
 refine ⟨?_,heap_setCell_row h.r3 i v,hs,Kp.keep hT hs⟩
 rw [heap_setCell_other W ⟨w.heap.size + 1 + 1,i,none⟩ w.heap.size v (by show w.heap.size ≠ w.heap.size + 1 + 1; omega)]
 exact h.r1
def ImO (f:Nat) (kek b:ByteArray) (K:Int) (k u m v e:ByteArray) (L:List A2) (pads:ByteArray):Prop:=∀ w,K3 w -> Calls Tryz.prog f #[.string kek,.string b] w fun x w' => ∃ a,x = .returned (.tuple #[.agg (R7 K k u m v e a),.string pads,.int .i64 0]) /\ AttsS w' a L /\ Below w.heap.size w w'
section
variable (kek b:ByteArray) (R:Int)
set_option maxHeartbeats 2000000 in
theorem im_key (c0:Ret 23 #[.int .i64 (kek.size:Int)] (.int .i64 R)) (h0:(R == 0) = true):KMk K3 10 #[.string kek,.string b] (noR 2):=by
 intro w hT
 have hs:=lH (ip_new w hT)
 have HT0:=lH hT
 unfold Z7 Frame.Z9 at hs
 clear hT
 go_enter Tryz.func10,Tryz.ntmps10
 go_wp2_with fail
 refine wp_scope_some 1 ?_
 go_wp2_with fail
 refine c0.calls ?_
 go_wp2_with fail
 go_step3
 refine ⟨_,rfl, ?_⟩
 have hr1:=hs.out.r1
 go_wp2_with (refine wpList_store_row rfl 26 _ _ rfl w.heap.size Z7 (by rfl) (by rfl) _ _ hr1 z7_info rfl z7_one ?_)
 exact bodyPost_ret (v:=noR 2) (results_c_t_t Tryz.results10 _ _ _ _ _ _ _ _ _ rfl rfl rfl (setRow_heap _ _ _ _ _ _ hr1) Tryz.underlying26 rfl z7_info) rfl ⟨rfl,below_setRow hs.out.since (Nat.le_refl _) _⟩
set_option maxHeartbeats 2000000 in
theorem im_cut (c0:Ret 23 #[.int .i64 (kek.size:Int)] (.int .i64 R)) (h0:(R == 0) = false) (E:Int) (_hE:(E == 0) = false) (hE2:(E != 0) = true) (c1:KMk Header.KH 34 #[.string b] (.tuple #[.agg Frame.Z9,.int .i64 E])):KMk K3 10 #[.string kek,.string b] (noR E):=by
 intro w hT
 have hs:=lH (ip_new w hT)
 have HT0:=lH hT
 unfold Z7 Frame.Z9 at hs
 clear hT
 go_enter Tryz.func10,Tryz.ntmps10
 go_wp2_with fail
 refine wp_scope_some 1 ?_
 go_wp2_with fail
 refine c0.calls ?_
 go_wp2_with fail
 refine c1.calls0 hs.out.tabs.kh ?_
 intro w1 h1
 replace hs:=lH (hs.out.step h1)
 clear h1
 have hr2:=hs.out.r2
 go_wp2_with (refine wpList_store_row rfl 53 _ _ rfl (w.heap.size + 1) Frame.Z9 (by rfl) (by rfl) _ _ hr2 Frame.z9_info rfl Frame.z9_one ?_)
 rw [show w1.setRow (w.heap.size + 1) Frame.Z9 = w1 from setRow_self _ _ _ _ _ hr2]
 go_step3
 refine ⟨_,rfl, ?_⟩
 have hr1:=hs.out.r1
 go_wp2_with (refine wpList_store_row rfl 26 _ _ rfl w.heap.size Z7 (by rfl) (by rfl) _ _ hr1 z7_info rfl z7_one ?_)
 exact bodyPost_ret (v:=noR E) (results_c_t_t Tryz.results10 _ _ _ _ _ _ _ _ _ rfl rfl rfl (setRow_heap _ _ _ _ _ _ hr1) Tryz.underlying26 rfl z7_info) rfl ⟨rfl,below_setRow hs.out.since (Nat.le_refl _) _⟩
def CutF (s l u m v e:ByteArray) (L:List A2) (P C G:ByteArray):Prop:=∀ w,Header.KH w -> Calls Tryz.prog 34 #[.string s] w fun x w' => ∃ a,x = .returned (.tuple #[.agg (Frame.C9 l u m v e a P C G),.int .i64 0]) /\ AttsS w' a L /\ Below w.heap.size w w' /\ Templ.Fresh w.heap.size a
set_option maxHeartbeats 4000000 in
theorem im_open (c0:Ret 23 #[.int .i64 (kek.size:Int)] (.int .i64 R)) (h0:(R == 0) = false) (l u m v e:ByteArray) (L:List A2) (P C G:ByteArray) (c1:CutF b l u m v e L P C G) (Q:ByteArray) (E:Int) (_hE:(E == 0) = false) (hE2:(E != 0) = true) (c2:Mak 35 #[.string kek,.string P,.string C,.string G] (.tuple #[.string Q,.int .i64 E])) :
   KMk K3 10 #[.string kek,.string b] (noR E):=by
 intro w hT
 have hs:=lH (ip_new w hT)
 have HT0:=lH hT
 unfold Z7 Frame.Z9 at hs
 clear hT
 go_enter Tryz.func10,Tryz.ntmps10
 go_wp2_with fail
 refine wp_scope_some 1 ?_
 go_wp2_with fail
 refine c0.calls ?_
 go_wp2_with fail
 refine (c1 _ hs.out.tabs.kh).mono ?_
 rintro x w1 ⟨a,rfl,ha,h1,hf⟩
 have hz:w.heap.size + 1 + 1 < (((w.alloc (.cells Z7 26)).alloc (.cells Frame.Z9 53)).alloc (.cells Z7 26)).heap.size:=by simp
 have hn1:∀ bb,a.blockOf = some bb -> bb ≠ w.heap.size:=Frame.fresh_ne hf (by unfold Z7 Frame.Z9 at hz; omega)
 have hn2:∀ bb,a.blockOf = some bb -> bb ≠ w.heap.size + 1:=Frame.fresh_ne hf (by unfold Z7 Frame.Z9 at hz; omega)
 have hn3:∀ bb,a.blockOf = some bb -> bb ≠ w.heap.size + 1 + 1:=Frame.fresh_ne hf (by unfold Z7 Frame.Z9 at hz; omega)
 have HA:=lH (Frame.far_rows ha (w.heap.size + 1) hn2 (Frame.C9 l u m v e a P C G))
 replace hs:=lH ((hs.out.step h1).frame (Frame.C9 l u m v e a P C G) HT0.out)
 have hr2:=(IP.step (w:=w) (F:=Frame.Z9) (W:=((w.alloc (.cells Z7 26)).alloc (.cells Frame.Z9 53)).alloc (.cells Z7 26)) (ip_new w HT0.out) h1).r2
 have HN1:=lH hn1
 have HN3:=lH hn3
 obtain ⟨A,d,hav,_⟩:=ha.slice
 subst hav
 clear ha h1 hf hz hn1 hn2 hn3
 go_wp2_with (refine wpList_store_row rfl 53 _ _ rfl (w.heap.size + 1) (Frame.C9 l u m v e (.slice A L.length d) P C G) (by rfl) (by rfl) _ _ hr2 (Frame.c9_info _ _ _ _ _ _ _ _ _) rfl (Frame.c9_one _ _ _ _ _ _ _ _ _ _ _) ?_; obtain ⟨W2,hW2⟩:∃ W2,W2 = w1.setRow (w.heap.size + 1) (Frame.C9 l u m v e (.slice A L.length d) P C G):=⟨_,rfl⟩; rw [<- hW2] at HA hs ⊢; clear hW2 hr2; have f0:W2.cell? ⟨w.heap.size + 1,0,none⟩ = some (.string l):=row_cell? hs.out.r2 0 _ rfl; have f1:W2.cell? ⟨w.heap.size + 1,1,none⟩ = some (.string u):=row_cell? hs.out.r2 1 _ rfl; have f2:W2.cell? ⟨w.heap.size + 1,2,none⟩ = some (.string m):=row_cell? hs.out.r2 2 _ rfl; have f3:W2.cell? ⟨w.heap.size + 1,3,none⟩ = some (.string v):=row_cell? hs.out.r2 3 _ rfl; have f4:W2.cell? ⟨w.heap.size + 1,4,none⟩ = some (.string e):=row_cell? hs.out.r2 4 _ rfl; have f5:W2.cell? ⟨w.heap.size + 1,5,none⟩ = some (.slice A L.length d):=row_cell? hs.out.r2 5 _ rfl; have f6:W2.cell? ⟨w.heap.size + 1,6,none⟩ = some (.string P):=row_cell? hs.out.r2 6 _ rfl; have f7:W2.cell? ⟨w.heap.size + 1,7,none⟩ = some (.string C):=row_cell? hs.out.r2 7 _ rfl; have f8:W2.cell? ⟨w.heap.size + 1,8,none⟩ = some (.string G):=row_cell? hs.out.r2 8 _ rfl)
 refine c2.calls0 ?_
 intro w3 h3
 replace hs:=lH (hs.out.step h3)
 clear h3 f0 f1 f2 f3 f4 f5 f6 f7 f8
 go_wp2_with fail
 go_step3
 refine ⟨_,rfl, ?_⟩
 have hr1:=hs.out.r1
 go_wp2_with (refine wpList_store_row rfl 26 _ _ rfl w.heap.size Z7 (by rfl) (by rfl) _ _ hr1 z7_info rfl z7_one ?_)
 exact bodyPost_ret (v:=noR E) (results_c_t_t Tryz.results10 _ _ _ _ _ _ _ _ _ rfl rfl rfl (setRow_heap _ _ _ _ _ _ hr1) Tryz.underlying26 rfl z7_info) rfl ⟨rfl,below_setRow hs.out.since (Nat.le_refl _) _⟩
set_option maxHeartbeats 8000000 in
theorem im_take (c0:Ret 23 #[.int .i64 (kek.size:Int)] (.int .i64 R)) (h0:(R == 0) = false) (l u m v e:ByteArray) (L:List A2) (P C G:ByteArray) (c1:CutF b l u m v e L P C G) (Q:ByteArray) (c2:Mak 35 #[.string kek,.string P,.string C,.string G] (.tuple #[.string Q,.int .i64 0]))
   (K:Int) (k pads:ByteArray) (E:Int) (_hE:(E == 0) = false) (hE2:(E != 0) = true) (c3:KMk Kind.Tab2 36 #[.string l,.string Q] (.tuple #[.int .i64 K,.string k,.string pads,.int .i64 E])) :
   KMk K3 10 #[.string kek,.string b] (noR E):=by
 intro w hT
 have hs:=lH (ip_new w hT)
 have HT0:=lH hT
 unfold Z7 Frame.Z9 at hs
 clear hT
 go_enter Tryz.func10,Tryz.ntmps10
 go_wp2_with fail
 refine wp_scope_some 1 ?_
 go_wp2_with fail
 refine c0.calls ?_
 go_wp2_with fail
 refine (c1 _ hs.out.tabs.kh).mono ?_
 rintro x w1 ⟨a,rfl,ha,h1,hf⟩
 have hz:w.heap.size + 1 + 1 < (((w.alloc (.cells Z7 26)).alloc (.cells Frame.Z9 53)).alloc (.cells Z7 26)).heap.size:=by simp
 have hn1:∀ bb,a.blockOf = some bb -> bb ≠ w.heap.size:=Frame.fresh_ne hf (by unfold Z7 Frame.Z9 at hz; omega)
 have hn2:∀ bb,a.blockOf = some bb -> bb ≠ w.heap.size + 1:=Frame.fresh_ne hf (by unfold Z7 Frame.Z9 at hz; omega)
 have hn3:∀ bb,a.blockOf = some bb -> bb ≠ w.heap.size + 1 + 1:=Frame.fresh_ne hf (by unfold Z7 Frame.Z9 at hz; omega)
 have HA:=lH (Frame.far_rows ha (w.heap.size + 1) hn2 (Frame.C9 l u m v e a P C G))
 replace hs:=lH ((hs.out.step h1).frame (Frame.C9 l u m v e a P C G) HT0.out)
 have hr2:=(IP.step (w:=w) (F:=Frame.Z9) (W:=((w.alloc (.cells Z7 26)).alloc (.cells Frame.Z9 53)).alloc (.cells Z7 26)) (ip_new w HT0.out) h1).r2
 have HN1:=lH hn1
 have HN3:=lH hn3
 obtain ⟨A,d,hav,_⟩:=ha.slice
 subst hav
 clear ha h1 hf hz hn1 hn2 hn3
 go_wp2_with (refine wpList_store_row rfl 53 _ _ rfl (w.heap.size + 1) (Frame.C9 l u m v e (.slice A L.length d) P C G) (by rfl) (by rfl) _ _ hr2 (Frame.c9_info _ _ _ _ _ _ _ _ _) rfl (Frame.c9_one _ _ _ _ _ _ _ _ _ _ _) ?_; obtain ⟨W2,hW2⟩:∃ W2,W2 = w1.setRow (w.heap.size + 1) (Frame.C9 l u m v e (.slice A L.length d) P C G):=⟨_,rfl⟩; rw [<- hW2] at HA hs ⊢; clear hW2 hr2; have f0:W2.cell? ⟨w.heap.size + 1,0,none⟩ = some (.string l):=row_cell? hs.out.r2 0 _ rfl; have f1:W2.cell? ⟨w.heap.size + 1,1,none⟩ = some (.string u):=row_cell? hs.out.r2 1 _ rfl; have f2:W2.cell? ⟨w.heap.size + 1,2,none⟩ = some (.string m):=row_cell? hs.out.r2 2 _ rfl; have f3:W2.cell? ⟨w.heap.size + 1,3,none⟩ = some (.string v):=row_cell? hs.out.r2 3 _ rfl; have f4:W2.cell? ⟨w.heap.size + 1,4,none⟩ = some (.string e):=row_cell? hs.out.r2 4 _ rfl; have f5:W2.cell? ⟨w.heap.size + 1,5,none⟩ = some (.slice A L.length d):=row_cell? hs.out.r2 5 _ rfl; have f6:W2.cell? ⟨w.heap.size + 1,6,none⟩ = some (.string P):=row_cell? hs.out.r2 6 _ rfl; have f7:W2.cell? ⟨w.heap.size + 1,7,none⟩ = some (.string C):=row_cell? hs.out.r2 7 _ rfl; have f8:W2.cell? ⟨w.heap.size + 1,8,none⟩ = some (.string G):=row_cell? hs.out.r2 8 _ rfl)
 refine c2.calls0 ?_
 intro w3 h3
 replace hs:=lH (hs.out.step h3)
 replace HA:=lH (HA.out.since h3)
 clear h3 f0 f1 f2 f3 f4 f5 f6 f7 f8
 have f0:w3.cell? ⟨w.heap.size + 1,0,none⟩ = some (.string l):=row_cell? hs.out.r2 0 _ rfl
 have f1:w3.cell? ⟨w.heap.size + 1,1,none⟩ = some (.string u):=row_cell? hs.out.r2 1 _ rfl
 have f2:w3.cell? ⟨w.heap.size + 1,2,none⟩ = some (.string m):=row_cell? hs.out.r2 2 _ rfl
 have f3:w3.cell? ⟨w.heap.size + 1,3,none⟩ = some (.string v):=row_cell? hs.out.r2 3 _ rfl
 have f4:w3.cell? ⟨w.heap.size + 1,4,none⟩ = some (.string e):=row_cell? hs.out.r2 4 _ rfl
 have f5:w3.cell? ⟨w.heap.size + 1,5,none⟩ = some (.slice A L.length d):=row_cell? hs.out.r2 5 _ rfl
 have f6:w3.cell? ⟨w.heap.size + 1,6,none⟩ = some (.string P):=row_cell? hs.out.r2 6 _ rfl
 have f7:w3.cell? ⟨w.heap.size + 1,7,none⟩ = some (.string C):=row_cell? hs.out.r2 7 _ rfl
 have f8:w3.cell? ⟨w.heap.size + 1,8,none⟩ = some (.string G):=row_cell? hs.out.r2 8 _ rfl
 have r3:=hs.out.r3
 have hj:=lH (hs.out.jp.row (R7 0 ⟨#[]⟩ u m v e (.slice A L.length d)) HT0.out)
 replace HA:=lH (Frame.far_rows HA.out (w.heap.size + 1 + 1) HN3.out (R7 0 ⟨#[]⟩ u m v e (.slice A L.length d)))
 have q0:(w3.setRow (w.heap.size + 1 + 1) (R7 0 ⟨#[]⟩ u m v e (.slice A L.length d))).cell? ⟨w.heap.size + 1,0,none⟩ = some (.string l):=row_cell? ((setRow_other _ _ _ _ (by omega)).trans hs.out.r2) 0 _ rfl
 go_wp2_with (refine wpList_store_row rfl 26 _ _ rfl (w.heap.size + 1 + 1) (R7 0 ⟨#[]⟩ u m v e (.slice A L.length d)) (by rfl) (by rfl) _ _ r3 (r7_info _ _ _ _ _ _ _) rfl (r7_one _ _ _ _ _ _ _ _ _) ?_; obtain ⟨W4,hW4⟩:∃ W4,W4 = w3.setRow (w.heap.size + 1 + 1) (R7 0 ⟨#[]⟩ u m v e (.slice A L.length d)):=⟨_,rfl⟩; rw [<- hW4] at hj q0 HA ⊢; clear hW4 r3 f0 f1 f2 f3 f4 f5 f6 f7 f8)
 refine c3.calls0 hj.out.tabs.t2 ?_
 intro w5 h5
 replace hj:=lH (hj.out.step h5)
 replace HA:=lH (HA.out.since h5)
 clear h5 q0 hs
 have hj6:=lH (hj.out.set 0 (.int .i64 K) (R7 K ⟨#[]⟩ u m v e (.slice A L.length d)) rfl HT0.out)
 have hj7:=lH (hj6.out.set 1 (.string k) (R7 K k u m v e (.slice A L.length d)) rfl HT0.out)
 have HA7:=lH (Frame.far_atts (Frame.far_atts HA.out (w.heap.size + 1 + 1) HN3.out 0 (.int .i64 K)) (w.heap.size + 1 + 1) HN3.out 1 (.string k))
 have z0:=row_free hj.out.r3 0
 have z1:=row_free hj6.out.r3 1
 have g0:w5.cell? ⟨w.heap.size + 1 + 1,0,none⟩ = some (.int .i64 0):=row_cell? hj.out.r3 0 _ rfl
 have y1:(w5.setCell ⟨w.heap.size + 1 + 1,0,none⟩ (.int .i64 K)).cell? ⟨w.heap.size + 1 + 1,1,none⟩ = some (.string ⟨#[]⟩):=row_cell? hj6.out.r3 1 _ rfl
 have x0:((w5.setCell ⟨w.heap.size + 1 + 1,0,none⟩ (.int .i64 K)).setCell ⟨w.heap.size + 1 + 1,1,none⟩ (.string k)).cell? ⟨w.heap.size + 1 + 1,0,none⟩ = some (.int .i64 K):=row_cell? hj7.out.r3 0 _ rfl
 have x1:((w5.setCell ⟨w.heap.size + 1 + 1,0,none⟩ (.int .i64 K)).setCell ⟨w.heap.size + 1 + 1,1,none⟩ (.string k)).cell? ⟨w.heap.size + 1 + 1,1,none⟩ = some (.string k):=row_cell? hj7.out.r3 1 _ rfl
 have x2:((w5.setCell ⟨w.heap.size + 1 + 1,0,none⟩ (.int .i64 K)).setCell ⟨w.heap.size + 1 + 1,1,none⟩ (.string k)).cell? ⟨w.heap.size + 1 + 1,2,none⟩ = some (.slice A L.length d):=row_cell? hj7.out.r3 2 _ rfl
 have x3:((w5.setCell ⟨w.heap.size + 1 + 1,0,none⟩ (.int .i64 K)).setCell ⟨w.heap.size + 1 + 1,1,none⟩ (.string k)).cell? ⟨w.heap.size + 1 + 1,3,none⟩ = some (.string u):=row_cell? hj7.out.r3 3 _ rfl
 have x4:((w5.setCell ⟨w.heap.size + 1 + 1,0,none⟩ (.int .i64 K)).setCell ⟨w.heap.size + 1 + 1,1,none⟩ (.string k)).cell? ⟨w.heap.size + 1 + 1,4,none⟩ = some (.string m):=row_cell? hj7.out.r3 4 _ rfl
 have x5:((w5.setCell ⟨w.heap.size + 1 + 1,0,none⟩ (.int .i64 K)).setCell ⟨w.heap.size + 1 + 1,1,none⟩ (.string k)).cell? ⟨w.heap.size + 1 + 1,5,none⟩ = some (.string v):=row_cell? hj7.out.r3 5 _ rfl
 have x6:((w5.setCell ⟨w.heap.size + 1 + 1,0,none⟩ (.int .i64 K)).setCell ⟨w.heap.size + 1 + 1,1,none⟩ (.string k)).cell? ⟨w.heap.size + 1 + 1,6,none⟩ = some (.string e):=row_cell? hj7.out.r3 6 _ rfl
 have r1:=hj7.out.r1
 replace hj:=hj7
 replace HA:=HA7
 clear hj6 hj7 HA7
 go_wp2_with fail
 go_step3
 refine ⟨_,rfl, ?_⟩
 go_wp2_with (refine wpList_store_row rfl 26 _ _ rfl w.heap.size Z7 (by rfl) (by rfl) _ _ r1 z7_info rfl z7_one ?_)
 exact bodyPost_ret (v:=noR E) (results_c_t_t Tryz.results10 _ _ _ _ _ _ _ _ _ rfl rfl rfl (setRow_heap _ _ _ _ _ _ r1) Tryz.underlying26 rfl z7_info) rfl ⟨rfl,below_setRow hj.out.since (Nat.le_refl _) _⟩
set_option maxHeartbeats 8000000 in
theorem im_ok (c0:Ret 23 #[.int .i64 (kek.size:Int)] (.int .i64 R)) (h0:(R == 0) = false) (l u m v e:ByteArray) (L:List A2) (P C G:ByteArray) (c1:CutF b l u m v e L P C G) (Q:ByteArray) (c2:Mak 35 #[.string kek,.string P,.string C,.string G] (.tuple #[.string Q,.int .i64 0]))
   (K:Int) (k pads:ByteArray) (E:Int) (hE:E = 0) (c3:KMk Kind.Tab2 36 #[.string l,.string Q] (.tuple #[.int .i64 K,.string k,.string pads,.int .i64 E])) :
   ImO 10 kek b K k u m v e L pads:=by
 have hE1:(E == 0) = true:=by rw [hE]; rfl
 have hE2:(E != 0) = false:=by rw [hE]; rfl
 clear hE
 intro w hT
 have hs:=lH (ip_new w hT)
 have HT0:=lH hT
 unfold Z7 Frame.Z9 at hs
 clear hT
 go_enter Tryz.func10,Tryz.ntmps10
 go_wp2_with fail
 refine wp_scope_some 1 ?_
 go_wp2_with fail
 refine c0.calls ?_
 go_wp2_with fail
 refine (c1 _ hs.out.tabs.kh).mono ?_
 rintro x w1 ⟨a,rfl,ha,h1,hf⟩
 have hz:w.heap.size + 1 + 1 < (((w.alloc (.cells Z7 26)).alloc (.cells Frame.Z9 53)).alloc (.cells Z7 26)).heap.size:=by simp
 have hn1:∀ bb,a.blockOf = some bb -> bb ≠ w.heap.size:=Frame.fresh_ne hf (by unfold Z7 Frame.Z9 at hz; omega)
 have hn2:∀ bb,a.blockOf = some bb -> bb ≠ w.heap.size + 1:=Frame.fresh_ne hf (by unfold Z7 Frame.Z9 at hz; omega)
 have hn3:∀ bb,a.blockOf = some bb -> bb ≠ w.heap.size + 1 + 1:=Frame.fresh_ne hf (by unfold Z7 Frame.Z9 at hz; omega)
 have HA:=lH (Frame.far_rows ha (w.heap.size + 1) hn2 (Frame.C9 l u m v e a P C G))
 replace hs:=lH ((hs.out.step h1).frame (Frame.C9 l u m v e a P C G) HT0.out)
 have hr2:=(IP.step (w:=w) (F:=Frame.Z9) (W:=((w.alloc (.cells Z7 26)).alloc (.cells Frame.Z9 53)).alloc (.cells Z7 26)) (ip_new w HT0.out) h1).r2
 have HN1:=lH hn1
 have HN3:=lH hn3
 obtain ⟨A,d,hav,_⟩:=ha.slice
 subst hav
 clear ha h1 hf hz hn1 hn2 hn3
 go_wp2_with (refine wpList_store_row rfl 53 _ _ rfl (w.heap.size + 1) (Frame.C9 l u m v e (.slice A L.length d) P C G) (by rfl) (by rfl) _ _ hr2 (Frame.c9_info _ _ _ _ _ _ _ _ _) rfl (Frame.c9_one _ _ _ _ _ _ _ _ _ _ _) ?_; obtain ⟨W2,hW2⟩:∃ W2,W2 = w1.setRow (w.heap.size + 1) (Frame.C9 l u m v e (.slice A L.length d) P C G):=⟨_,rfl⟩; rw [<- hW2] at HA hs ⊢; clear hW2 hr2; have f0:W2.cell? ⟨w.heap.size + 1,0,none⟩ = some (.string l):=row_cell? hs.out.r2 0 _ rfl; have f1:W2.cell? ⟨w.heap.size + 1,1,none⟩ = some (.string u):=row_cell? hs.out.r2 1 _ rfl; have f2:W2.cell? ⟨w.heap.size + 1,2,none⟩ = some (.string m):=row_cell? hs.out.r2 2 _ rfl; have f3:W2.cell? ⟨w.heap.size + 1,3,none⟩ = some (.string v):=row_cell? hs.out.r2 3 _ rfl; have f4:W2.cell? ⟨w.heap.size + 1,4,none⟩ = some (.string e):=row_cell? hs.out.r2 4 _ rfl; have f5:W2.cell? ⟨w.heap.size + 1,5,none⟩ = some (.slice A L.length d):=row_cell? hs.out.r2 5 _ rfl; have f6:W2.cell? ⟨w.heap.size + 1,6,none⟩ = some (.string P):=row_cell? hs.out.r2 6 _ rfl; have f7:W2.cell? ⟨w.heap.size + 1,7,none⟩ = some (.string C):=row_cell? hs.out.r2 7 _ rfl; have f8:W2.cell? ⟨w.heap.size + 1,8,none⟩ = some (.string G):=row_cell? hs.out.r2 8 _ rfl)
 refine c2.calls0 ?_
 intro w3 h3
 replace hs:=lH (hs.out.step h3)
 replace HA:=lH (HA.out.since h3)
 clear h3 f0 f1 f2 f3 f4 f5 f6 f7 f8
 have f0:w3.cell? ⟨w.heap.size + 1,0,none⟩ = some (.string l):=row_cell? hs.out.r2 0 _ rfl
 have f1:w3.cell? ⟨w.heap.size + 1,1,none⟩ = some (.string u):=row_cell? hs.out.r2 1 _ rfl
 have f2:w3.cell? ⟨w.heap.size + 1,2,none⟩ = some (.string m):=row_cell? hs.out.r2 2 _ rfl
 have f3:w3.cell? ⟨w.heap.size + 1,3,none⟩ = some (.string v):=row_cell? hs.out.r2 3 _ rfl
 have f4:w3.cell? ⟨w.heap.size + 1,4,none⟩ = some (.string e):=row_cell? hs.out.r2 4 _ rfl
 have f5:w3.cell? ⟨w.heap.size + 1,5,none⟩ = some (.slice A L.length d):=row_cell? hs.out.r2 5 _ rfl
 have f6:w3.cell? ⟨w.heap.size + 1,6,none⟩ = some (.string P):=row_cell? hs.out.r2 6 _ rfl
 have f7:w3.cell? ⟨w.heap.size + 1,7,none⟩ = some (.string C):=row_cell? hs.out.r2 7 _ rfl
 have f8:w3.cell? ⟨w.heap.size + 1,8,none⟩ = some (.string G):=row_cell? hs.out.r2 8 _ rfl
 have r3:=hs.out.r3
 have hj:=lH (hs.out.jp.row (R7 0 ⟨#[]⟩ u m v e (.slice A L.length d)) HT0.out)
 replace HA:=lH (Frame.far_rows HA.out (w.heap.size + 1 + 1) HN3.out (R7 0 ⟨#[]⟩ u m v e (.slice A L.length d)))
 have q0:(w3.setRow (w.heap.size + 1 + 1) (R7 0 ⟨#[]⟩ u m v e (.slice A L.length d))).cell? ⟨w.heap.size + 1,0,none⟩ = some (.string l):=row_cell? ((setRow_other _ _ _ _ (by omega)).trans hs.out.r2) 0 _ rfl
 go_wp2_with (refine wpList_store_row rfl 26 _ _ rfl (w.heap.size + 1 + 1) (R7 0 ⟨#[]⟩ u m v e (.slice A L.length d)) (by rfl) (by rfl) _ _ r3 (r7_info _ _ _ _ _ _ _) rfl (r7_one _ _ _ _ _ _ _ _ _) ?_; obtain ⟨W4,hW4⟩:∃ W4,W4 = w3.setRow (w.heap.size + 1 + 1) (R7 0 ⟨#[]⟩ u m v e (.slice A L.length d)):=⟨_,rfl⟩; rw [<- hW4] at hj q0 HA ⊢; clear hW4 r3 f0 f1 f2 f3 f4 f5 f6 f7 f8)
 refine c3.calls0 hj.out.tabs.t2 ?_
 intro w5 h5
 replace hj:=lH (hj.out.step h5)
 replace HA:=lH (HA.out.since h5)
 clear h5 q0 hs
 have hj6:=lH (hj.out.set 0 (.int .i64 K) (R7 K ⟨#[]⟩ u m v e (.slice A L.length d)) rfl HT0.out)
 have hj7:=lH (hj6.out.set 1 (.string k) (R7 K k u m v e (.slice A L.length d)) rfl HT0.out)
 have HA7:=lH (Frame.far_atts (Frame.far_atts HA.out (w.heap.size + 1 + 1) HN3.out 0 (.int .i64 K)) (w.heap.size + 1 + 1) HN3.out 1 (.string k))
 have z0:=row_free hj.out.r3 0
 have z1:=row_free hj6.out.r3 1
 have g0:w5.cell? ⟨w.heap.size + 1 + 1,0,none⟩ = some (.int .i64 0):=row_cell? hj.out.r3 0 _ rfl
 have y1:(w5.setCell ⟨w.heap.size + 1 + 1,0,none⟩ (.int .i64 K)).cell? ⟨w.heap.size + 1 + 1,1,none⟩ = some (.string ⟨#[]⟩):=row_cell? hj6.out.r3 1 _ rfl
 have x0:((w5.setCell ⟨w.heap.size + 1 + 1,0,none⟩ (.int .i64 K)).setCell ⟨w.heap.size + 1 + 1,1,none⟩ (.string k)).cell? ⟨w.heap.size + 1 + 1,0,none⟩ = some (.int .i64 K):=row_cell? hj7.out.r3 0 _ rfl
 have x1:((w5.setCell ⟨w.heap.size + 1 + 1,0,none⟩ (.int .i64 K)).setCell ⟨w.heap.size + 1 + 1,1,none⟩ (.string k)).cell? ⟨w.heap.size + 1 + 1,1,none⟩ = some (.string k):=row_cell? hj7.out.r3 1 _ rfl
 have x2:((w5.setCell ⟨w.heap.size + 1 + 1,0,none⟩ (.int .i64 K)).setCell ⟨w.heap.size + 1 + 1,1,none⟩ (.string k)).cell? ⟨w.heap.size + 1 + 1,2,none⟩ = some (.slice A L.length d):=row_cell? hj7.out.r3 2 _ rfl
 have x3:((w5.setCell ⟨w.heap.size + 1 + 1,0,none⟩ (.int .i64 K)).setCell ⟨w.heap.size + 1 + 1,1,none⟩ (.string k)).cell? ⟨w.heap.size + 1 + 1,3,none⟩ = some (.string u):=row_cell? hj7.out.r3 3 _ rfl
 have x4:((w5.setCell ⟨w.heap.size + 1 + 1,0,none⟩ (.int .i64 K)).setCell ⟨w.heap.size + 1 + 1,1,none⟩ (.string k)).cell? ⟨w.heap.size + 1 + 1,4,none⟩ = some (.string m):=row_cell? hj7.out.r3 4 _ rfl
 have x5:((w5.setCell ⟨w.heap.size + 1 + 1,0,none⟩ (.int .i64 K)).setCell ⟨w.heap.size + 1 + 1,1,none⟩ (.string k)).cell? ⟨w.heap.size + 1 + 1,5,none⟩ = some (.string v):=row_cell? hj7.out.r3 5 _ rfl
 have x6:((w5.setCell ⟨w.heap.size + 1 + 1,0,none⟩ (.int .i64 K)).setCell ⟨w.heap.size + 1 + 1,1,none⟩ (.string k)).cell? ⟨w.heap.size + 1 + 1,6,none⟩ = some (.string e):=row_cell? hj7.out.r3 6 _ rfl
 have r1:=hj7.out.r1
 replace hj:=hj7
 replace HA:=HA7
 clear hj6 hj7 HA7
 have r1:=hj.out.r1
 go_wp2_with (refine wpList_store_row rfl 26 _ _ rfl w.heap.size (R7 K k u m v e (.slice A L.length d)) (by rfl) (by rfl) _ _ r1 (r7_info _ _ _ _ _ _ _) rfl (r7_one _ _ _ _ _ _ _ _ _) ?_)
 simp only [Exit.jumps]
 exact bodyPost_ret (v:=.tuple #[.agg (R7 K k u m v e (.slice A L.length d)),.string pads,.int .i64 0]) (results_c_t_t Tryz.results10 _ _ _ _ _ _ _ _ _ rfl rfl rfl (setRow_heap _ _ _ _ _ _ r1) Tryz.underlying26 rfl (r7_info _ _ _ _ _ _ _)) rfl ⟨_,rfl,Frame.far_rows HA.out w.heap.size HN1.out _,below_setRow hj.out.since (Nat.le_refl _) _⟩
end
end Block
namespace Block
open Att
def KeyT (kek:ByteArray) (a b c:Bool):Prop:=((kek.size:Int) != 16) = a /\ ((kek.size:Int) != 24) = b /\ ((kek.size:Int) != 32) = c
theorem key_yes (kek:ByteArray) (h:Aes.keyOk kek):∃ a b c,KeyT kek a b c /\ (a = false ∨ (a = true /\ b = false) ∨ (a = true /\ b = true /\ c = false)):=by
 refine ⟨_,_,_,⟨rfl,rfl,rfl⟩, ?_⟩
 unfold Aes.keyOk at h
 rcases h with h | h | h
 · left; rw [bne_eq_false_iff_eq]; omega
 · right; left; exact ⟨by rw [bne_iff_ne]; omega,by rw [bne_eq_false_iff_eq]; omega⟩
 · right; right; exact ⟨by rw [bne_iff_ne]; omega,by rw [bne_iff_ne]; omega,by rw [bne_eq_false_iff_eq]; omega⟩
section
variable (kek pads:ByteArray) (K:Int) (k u m v e:ByteArray) (L:List A2)
end
end Block
namespace Block
open Att
section
variable (K:Int) (k u m v e:ByteArray) (L:List A2)
end
end Block
namespace Block
open Att
abbrev CutG (s l u m v e:ByteArray) (L:List A2) (P C G:ByteArray):Prop:=Frame.CutR s l u m v e L P C G
section
variable (kek b:ByteArray)
set_option maxHeartbeats 2000000 in
theorem rim_key (t1:((kek.size:Int) != 16) = true) (t2:((kek.size:Int) != 24) = true) (t3:((kek.size:Int) != 32) = true):KMk K3 11 #[.string kek,.string b] (noR 2):=by
 intro w hT
 have hr:=lH (show HR w w.heap.size Z7 26 (w.alloc (.cells Z7 26)) from ⟨heap_alloc_new w _⟩)
 have HS:=lH (Since.alloc (Since.refl w) (.cells Z7 26))
 have HT:=lH (Kp.keep hT (Since.alloc (Since.refl w) (.cells Z7 26)))
 unfold Z7 at hr HS HT
 clear hT
 go_enter Tryz.func11,Tryz.ntmps11
 have r1:=hr.out.row
 go_wp2_with (refine wpList_store_row rfl 26 _ _ rfl w.heap.size Z7 (by rfl) (by rfl) _ _ r1 z7_info rfl z7_one ?_)
 exact bodyPost_ret (v:=noR 2) (results_c_t_t Tryz.results11 _ _ _ _ _ _ _ _ _ rfl rfl rfl (setRow_heap _ _ _ _ _ _ r1) Tryz.underlying26 rfl z7_info) rfl ⟨rfl,below_setRow HS.out (Nat.le_refl _) _⟩
set_option maxHeartbeats 4000000 in
theorem rim_cut (hk:Aes.keyOk kek) (E:Int) (hE2:(E != 0) = true) (c1:Mak 37 #[.string b] (.tuple #[.agg Frame.Z9,.int .i64 E])):KMk K3 11 #[.string kek,.string b] (noR E):=by
 intro w hT
 obtain ⟨a1,a2,a3,⟨t1,t2,t3⟩,hq⟩:=key_yes kek hk
 clear hk
 rcases hq with rfl | ⟨rfl,rfl⟩ | ⟨rfl,rfl,rfl⟩
 all_goals
   have hr:=lH (show HR w w.heap.size Z7 26 (w.alloc (.cells Z7 26)) from ⟨heap_alloc_new w _⟩)
   have HS:=lH (Since.alloc (Since.refl w) (.cells Z7 26))
   have HT:=lH (Kp.keep hT (Since.alloc (Since.refl w) (.cells Z7 26)))
   unfold Z7 at hr HS HT
   clear hT
   go_enter Tryz.func11,Tryz.ntmps11
   go_wp2_with fail
   refine c1.calls0 ?_
   intro w1 h1
   replace hr:=lH (hr_old (hr.out.step h1) (.cells Frame.Z9 59))
   replace HS:=lH ((HS.out.step h1).alloc (.cells Frame.Z9 59))
   unfold Frame.Z9 at hr HS ⊢
   clear h1 HT
   have r1:=hr.out.row
   go_wp2_with (refine wpList_store_row rfl 26 _ _ rfl w.heap.size Z7 (by rfl) (by rfl) _ _ r1 z7_info rfl z7_one ?_)
   exact bodyPost_ret (v:=noR E) (results_c_t_t Tryz.results11 _ _ _ _ _ _ _ _ _ rfl rfl rfl (setRow_heap _ _ _ _ _ _ r1) Tryz.underlying26 rfl z7_info) rfl ⟨rfl,below_setRow HS.out (Nat.le_refl _) _⟩
set_option maxHeartbeats 8000000 in
theorem rim_open (hk:Aes.keyOk kek) (l u m v e:ByteArray) (L:List A2) (P C G:ByteArray) (c1:CutG b l u m v e L P C G) (Q:ByteArray) (E:Int) (hE2:(E != 0) = true) (c2:Mak 38 #[.string kek,.string P,.string C,.string G] (.tuple #[.string Q,.int .i64 E])):KMk K3 11 #[.string kek,.string b] (noR E):=by
 intro w hT
 obtain ⟨a1,a2,a3,⟨t1,t2,t3⟩,hq⟩:=key_yes kek hk
 clear hk
 rcases hq with rfl | ⟨rfl,rfl⟩ | ⟨rfl,rfl,rfl⟩
 all_goals
   have hr:=lH (show HR w w.heap.size Z7 26 (w.alloc (.cells Z7 26)) from ⟨heap_alloc_new w _⟩)
   have HS:=lH (Since.alloc (Since.refl w) (.cells Z7 26))
   have HT:=lH (Kp.keep hT (Since.alloc (Since.refl w) (.cells Z7 26)))
   unfold Z7 at hr HS HT
   clear hT
   go_enter Tryz.func11,Tryz.ntmps11
   go_wp2_with fail
   refine (c1 _).mono ?_
   rintro x w1 ⟨a,rfl,ha,h1,hf⟩
   have hlt:w.heap.size < (w.alloc (.cells Z7 26)).heap.size:=by simp
   have hn1:∀ bb,a.blockOf = some bb -> bb ≠ w.heap.size:=Frame.fresh_ne hf hlt
   have HN1:=lH hn1
   obtain ⟨A,d,hav,_⟩:=ha.slice
   subst hav
   have HA:=lH (ha.since ((Since.refl w1).alloc (.cells (Frame.C9 l u m v e (.slice A L.length d) P C G) 59)))
   replace hr:=lH (hr_old (hr.out.step h1) (.cells (Frame.C9 l u m v e (.slice A L.length d) P C G) 59))
   replace HS:=lH ((HS.out.step h1).alloc (.cells (Frame.C9 l u m v e (.slice A L.length d) P C G) 59))
   have hb:=lH (hb_new w1 K3 (Kp.keep HT.out h1) (Frame.C9 l u m v e (.slice A L.length d) P C G) 59)
   clear ha h1 hf hlt hn1 HT
   unfold Frame.C9 at hr HS hb HA ⊢
   obtain ⟨n0,n1,n2,n3,n4,n5,n6,n7,n8⟩:=Frame.hb9 hb.out
   go_wp2_with fail
   refine c2.calls0 ?_
   intro w3 h3
   replace hr:=lH (hr.out.step h3)
   replace hb:=lH (hb.out.step h3)
   replace HS:=lH (HS.out.step h3)
   replace HA:=lH (HA.out.since h3)
   clear h3 n0 n1 n2 n3 n4 n5 n6 n7 n8
   have r1:=hr.out.row
   go_wp2_with (refine wpList_store_row rfl 26 _ _ rfl w.heap.size Z7 (by rfl) (by rfl) _ _ r1 z7_info rfl z7_one ?_)
   exact bodyPost_ret (v:=noR E) (results_c_t_t Tryz.results11 _ _ _ _ _ _ _ _ _ rfl rfl rfl (setRow_heap _ _ _ _ _ _ r1) Tryz.underlying26 rfl z7_info) rfl ⟨rfl,below_setRow HS.out (Nat.le_refl _) _⟩
set_option maxHeartbeats 8000000 in
theorem rim_take (hk:Aes.keyOk kek) (l u m v e:ByteArray) (L:List A2) (P C G:ByteArray) (c1:CutG b l u m v e L P C G) (Q:ByteArray) (c2:Mak 38 #[.string kek,.string P,.string C,.string G] (.tuple #[.string Q,.int .i64 0])) (K:Int) (k pads:ByteArray) (E:Int) (hE2:(E != 0) = true)
   (c3:Mak 39 #[.string l,.string Q] (.tuple #[.int .i64 K,.string k,.string pads,.int .i64 E])):KMk K3 11 #[.string kek,.string b] (noR E):=by
 intro w hT
 obtain ⟨a1,a2,a3,⟨t1,t2,t3⟩,hq⟩:=key_yes kek hk
 clear hk
 rcases hq with rfl | ⟨rfl,rfl⟩ | ⟨rfl,rfl,rfl⟩
 all_goals
   have hr:=lH (show HR w w.heap.size Z7 26 (w.alloc (.cells Z7 26)) from ⟨heap_alloc_new w _⟩)
   have HS:=lH (Since.alloc (Since.refl w) (.cells Z7 26))
   have HT:=lH (Kp.keep hT (Since.alloc (Since.refl w) (.cells Z7 26)))
   unfold Z7 at hr HS HT
   clear hT
   go_enter Tryz.func11,Tryz.ntmps11
   go_wp2_with fail
   refine (c1 _).mono ?_
   rintro x w1 ⟨a,rfl,ha,h1,hf⟩
   have hlt:w.heap.size < (w.alloc (.cells Z7 26)).heap.size:=by simp
   have hn1:∀ bb,a.blockOf = some bb -> bb ≠ w.heap.size:=Frame.fresh_ne hf hlt
   have HN1:=lH hn1
   obtain ⟨A,d,hav,_⟩:=ha.slice
   subst hav
   have HA:=lH (ha.since ((Since.refl w1).alloc (.cells (Frame.C9 l u m v e (.slice A L.length d) P C G) 59)))
   replace hr:=lH (hr_old (hr.out.step h1) (.cells (Frame.C9 l u m v e (.slice A L.length d) P C G) 59))
   replace HS:=lH ((HS.out.step h1).alloc (.cells (Frame.C9 l u m v e (.slice A L.length d) P C G) 59))
   have hb:=lH (hb_new w1 K3 (Kp.keep HT.out h1) (Frame.C9 l u m v e (.slice A L.length d) P C G) 59)
   clear ha h1 hf hlt hn1 HT
   unfold Frame.C9 at hr HS hb HA ⊢
   obtain ⟨n0,n1,n2,n3,n4,n5,n6,n7,n8⟩:=Frame.hb9 hb.out
   go_wp2_with fail
   refine c2.calls0 ?_
   intro w3 h3
   replace hr:=lH (hr.out.step h3)
   replace hb:=lH (hb.out.step h3)
   replace HS:=lH (HS.out.step h3)
   replace HA:=lH (HA.out.since h3)
   clear h3 n0 n1 n2 n3 n4 n5 n6 n7 n8
   obtain ⟨n0,n1,n2,n3,n4,n5,n6,n7,n8⟩:=Frame.hb9 hb.out
   go_wp2_with fail
   refine c3.calls0 ?_
   intro w5 h5
   replace hr:=lH (hr.out.step h5)
   replace hb:=lH (hb.out.step h5)
   replace HS:=lH (HS.out.step h5)
   replace HA:=lH (HA.out.since h5)
   clear h5 n0 n1 n2 n3 n4 n5 n6 n7 n8
   have r1:=hr.out.row
   go_wp2_with (refine wpList_store_row rfl 26 _ _ rfl w.heap.size Z7 (by rfl) (by rfl) _ _ r1 z7_info rfl z7_one ?_)
   exact bodyPost_ret (v:=noR E) (results_c_t_t Tryz.results11 _ _ _ _ _ _ _ _ _ rfl rfl rfl (setRow_heap _ _ _ _ _ _ r1) Tryz.underlying26 rfl z7_info) rfl ⟨rfl,below_setRow HS.out (Nat.le_refl _) _⟩
set_option maxHeartbeats 8000000 in
theorem rim_ok (hk:Aes.keyOk kek) (l u m v e:ByteArray) (L:List A2) (P C G:ByteArray) (c1:CutG b l u m v e L P C G) (Q:ByteArray) (c2:Mak 38 #[.string kek,.string P,.string C,.string G] (.tuple #[.string Q,.int .i64 0])) (K:Int) (k pads:ByteArray) (E:Int) (hE2:(E != 0) = false)
   (c3:Mak 39 #[.string l,.string Q] (.tuple #[.int .i64 K,.string k,.string pads,.int .i64 E])):ImO 11 kek b K k u m v e L pads:=by
 intro w hT
 obtain ⟨a1,a2,a3,⟨t1,t2,t3⟩,hq⟩:=key_yes kek hk
 clear hk
 rcases hq with rfl | ⟨rfl,rfl⟩ | ⟨rfl,rfl,rfl⟩
 all_goals
   have hr:=lH (show HR w w.heap.size Z7 26 (w.alloc (.cells Z7 26)) from ⟨heap_alloc_new w _⟩)
   have HS:=lH (Since.alloc (Since.refl w) (.cells Z7 26))
   have HT:=lH (Kp.keep hT (Since.alloc (Since.refl w) (.cells Z7 26)))
   unfold Z7 at hr HS HT
   clear hT
   go_enter Tryz.func11,Tryz.ntmps11
   go_wp2_with fail
   refine (c1 _).mono ?_
   rintro x w1 ⟨a,rfl,ha,h1,hf⟩
   have hlt:w.heap.size < (w.alloc (.cells Z7 26)).heap.size:=by simp
   have hn1:∀ bb,a.blockOf = some bb -> bb ≠ w.heap.size:=Frame.fresh_ne hf hlt
   have HN1:=lH hn1
   obtain ⟨A,d,hav,_⟩:=ha.slice
   subst hav
   have HA:=lH (ha.since ((Since.refl w1).alloc (.cells (Frame.C9 l u m v e (.slice A L.length d) P C G) 59)))
   replace hr:=lH (hr_old (hr.out.step h1) (.cells (Frame.C9 l u m v e (.slice A L.length d) P C G) 59))
   replace HS:=lH ((HS.out.step h1).alloc (.cells (Frame.C9 l u m v e (.slice A L.length d) P C G) 59))
   have hb:=lH (hb_new w1 K3 (Kp.keep HT.out h1) (Frame.C9 l u m v e (.slice A L.length d) P C G) 59)
   clear ha h1 hf hlt hn1 HT
   unfold Frame.C9 at hr HS hb HA ⊢
   obtain ⟨n0,n1,n2,n3,n4,n5,n6,n7,n8⟩:=Frame.hb9 hb.out
   go_wp2_with fail
   refine c2.calls0 ?_
   intro w3 h3
   replace hr:=lH (hr.out.step h3)
   replace hb:=lH (hb.out.step h3)
   replace HS:=lH (HS.out.step h3)
   replace HA:=lH (HA.out.since h3)
   clear h3 n0 n1 n2 n3 n4 n5 n6 n7 n8
   obtain ⟨n0,n1,n2,n3,n4,n5,n6,n7,n8⟩:=Frame.hb9 hb.out
   go_wp2_with fail
   refine c3.calls0 ?_
   intro w5 h5
   replace hr:=lH (hr.out.step h5)
   replace hb:=lH (hb.out.step h5)
   replace HS:=lH (HS.out.step h5)
   replace HA:=lH (HA.out.since h5)
   clear h5 n0 n1 n2 n3 n4 n5 n6 n7 n8
   obtain ⟨n0,n1,n2,n3,n4,n5,n6,n7,n8⟩:=Frame.hb9 hb.out
   have r1:=hr.out.row
   go_wp2_with (refine wpList_store_row rfl 26 _ _ rfl w.heap.size (R7 K k u m v e (.slice A L.length d)) (by rfl) (by rfl) _ _ r1 (r7_info _ _ _ _ _ _ _) rfl (r7_one _ _ _ _ _ _ _ _ _) ?_)
   exact bodyPost_ret (v:=.tuple #[.agg (R7 K k u m v e (.slice A L.length d)),.string pads,.int .i64 0]) (results_c_t_t Tryz.results11 _ _ _ _ _ _ _ _ _ rfl rfl rfl (setRow_heap _ _ _ _ _ _ r1) Tryz.underlying26 rfl (r7_info _ _ _ _ _ _ _)) rfl ⟨_,rfl,Frame.far_rows HA.out w.heap.size HN1.out _,below_setRow HS.out (Nat.le_refl _) _⟩
end
theorem take_any (l s:ByteArray) (hs:s.size <= 100000) :
   ∃ k x p E,KMk Kind.Tab2 36 #[.string l,.string s] (.tuple #[.int .i64 k,.string x,.string p,.int .i64 E]) /\ Mak 39 #[.string l,.string s] (.tuple #[.int .i64 k,.string x,.string p,.int .i64 E]) /\ Load.takeV l s k x p E:=by
 by_cases h:s.size <= 300
 · exact Load.take_both l s h
 · have c1:=Load.total_k l _ rfl
   have r1:=Load.rtotal_ret l _ rfl
   have ht:Load.tot (Kind.mostN l.data.toList) <= 100:=by
     unfold Load.tot
     split
     · omega
     · split
       · omega
       · split <;> omega
   have hne:((s.size:Int) != Load.tot (Kind.mostN l.data.toList)) = true:=by rw [bne_iff_ne]; omega
   refine ⟨_,_,_,_,Load.take_len l s _ (by omega) hne c1, ?_,Or.inr ⟨rfl,rfl,rfl,rfl⟩⟩
   by_cases h2:Load.tot (Kind.mostN l.data.toList) = 0
   · rw [h2] at r1; exact Load.rtake_none l s r1
   · exact Load.rtake_len l s _ (beq_eq_false_iff_ne.2 h2) hne r1
def ImV (kek b:ByteArray):Prop :=
 (∃ E:Int,(E != 0) = true /\ KMk K3 10 #[.string kek,.string b] (noR E) /\ KMk K3 11 #[.string kek,.string b] (noR E)) ∨
 ∃ (K:Int) (k pads:ByteArray),ImO 10 kek b K k (b.extract 5 7) (b.extract 8 9) (b.extract 9 11) (b.extract 11 12) (Templ.fL (Frame.cutO b)) pads /\ ImO 11 kek b K k (b.extract 5 7) (b.extract 8 9) (b.extract 9 11) (b.extract 11 12) (Templ.fL (Frame.cutO b)) pads /\
   Aes.keyOk kek /\ Frame.cutE b = 0 /\ Opn.opened kek (b.extract 0 (Frame.cutD b)) (Frame.selC (Frame.cutR b)) (Frame.selT (Frame.cutR b)) = (Load.PLD k pads,0) /\ Kind.chkE (Kind.rowOf K) k.data.toList = 0 /\ (pads.size:Int) = Load.padsI (Kind.rowOf K) /\ LT K = b.extract 7 8
theorem import_b (kek b:ByteArray) (hb:b.size <= 1500) (hk:kek.size <= 100):ImV kek b:=by
 by_cases h0:Aes.keyOk kek
 · have d0:=Sched.rounds_yes kek.size h0 _ rfl
   have h01:(((kek.size / 4 + 6:Nat):Int) == 0) = false:=by rw [beq_eq_false_iff_ne]; omega
   by_cases h1:Frame.cutE b = 0
   · obtain ⟨z1,z2,z3,z4⟩:=Frame.cut_sizes b h1
     have p1:(b.extract 0 (Frame.cutD b)).size <= 2000:=by rw [ByteArray.size_extract]; omega
     have p2:(Frame.selC (Frame.cutR b)).size <= 3000:=by
       have hl:=Templ.unS_le (Frame.cutR b)
       have hl2:(Frame.cutR b).length = (b.extract (Frame.cutD b) b.size).size:=rfl
       rw [ByteArray.size_extract] at hl2
       unfold Frame.selC
       split
       · rw [ByteArray.size_extract]; omega
       · decide
     have p3:(Frame.selT (Frame.cutR b)).size <= 100:=by
       unfold Frame.selT
       split
       · rw [ByteArray.size_extract]; omega
       · decide
     have c1:CutF b _ _ _ _ _ _ _ _ _:=Frame.cut_good b h1
     have r1:=Frame.rcut_good b h1
     have c2:=Opn.open_mak kek (b.extract 0 (Frame.cutD b)) (Frame.selC (Frame.cutR b)) (Frame.selT (Frame.cutR b)) hk (by omega) (by omega) p3
     have r2:=Opn.ropen_mak kek (b.extract 0 (Frame.cutD b)) (Frame.selC (Frame.cutR b)) (Frame.selT (Frame.cutR b)) hk (by omega) (by omega) p3
     obtain ⟨⟨Q,E⟩,hq⟩:∃ x,Opn.opened kek (b.extract 0 (Frame.cutD b)) (Frame.selC (Frame.cutR b)) (Frame.selT (Frame.cutR b)) = x:=⟨_,rfl⟩
     rw [hq] at c2 r2
     by_cases h2:E = 0
     · subst h2
       have hQ:Q.size <= 100000:=by
         unfold Opn.opened at hq
         split at hq
         · cases hq
         · split at hq
           · cases hq
           · rename_i hci
             split at hq
             · cases hq
               rw [Opn.plain_size _ _ _ (by simpa using hci)]; omega
             · cases hq
       obtain ⟨K,k,pads,F,c3,r3,hv⟩:=take_any (b.extract 7 8) Q hQ
       rcases hv with ⟨rfl,g1,g2,rfl,-,-,g3⟩ | ⟨g1,rfl,rfl,rfl⟩
       · exact .inr ⟨K,k,pads,im_ok kek b _ d0 h01 _ _ _ _ _ _ _ _ _ c1 _ c2 K k pads 0 rfl c3,rim_ok kek b h0 _ _ _ _ _ _ _ _ _ r1 _ r2 K k pads 0 rfl r3,h0,h1,hq,g1,g2,by unfold LT; rw [g3,bs_list]⟩
       · exact .inl ⟨F,g1,im_take kek b _ d0 h01 _ _ _ _ _ _ _ _ _ c1 _ c2 _ _ _ F (by rw [bne_iff_ne] at g1; exact beq_eq_false_iff_ne.2 g1) g1 c3,rim_take kek b h0 _ _ _ _ _ _ _ _ _ r1 _ r2 _ _ _ F g1 r3⟩
     · have g1:(E != 0) = true:=by rw [bne_iff_ne]; exact h2
       exact .inl ⟨E,g1,im_open kek b _ d0 h01 _ _ _ _ _ _ _ _ _ c1 _ E (beq_eq_false_iff_ne.2 h2) g1 c2,rim_open kek b h0 _ _ _ _ _ _ _ _ _ r1 _ E g1 r2⟩
   · have g1:(Frame.cutE b != 0) = true:=by rw [bne_iff_ne]; exact h1
     exact .inl ⟨_,g1,im_cut kek b _ d0 h01 _ (beq_eq_false_iff_ne.2 h1) g1 (Frame.cut_bad b _ (Frame.split_bad b (by omega) h1)),rim_cut kek b h0 _ g1 (Frame.rcut_bad b (by omega) h1)⟩
 · unfold Aes.keyOk at h0
   exact .inl ⟨2,rfl,im_key kek b _ (Sched.rounds_no _ ⟨by omega,by omega,by omega⟩) rfl,rim_key kek b (by rw [bne_iff_ne]; omega) (by rw [bne_iff_ne]; omega) (by rw [bne_iff_ne]; omega)⟩
end Block
namespace Block
open Att
theorem chk_parts {K:Int} {k u m v e:ByteArray} {L:List A2} (h:chkI K k u m v e L = 0):Kind.chkE (Kind.rowOf K) k.data.toList = 0 /\ attE L = 0 /\ headE K u m v e = 0 /\ Rec.recE K k L = 0:=by
 have h1:Rec.recE K k L = 0:=by
   unfold chkI at h
   by_cases h5:Rec.recE K k L = 0
   · exact h5
   · rw [if_pos h5] at h; exact absurd h h5
 have h2:Kind.chkE (Kind.rowOf K) k.data.toList = 0:=by
   unfold Rec.recE at h1
   by_cases h5:Kind.chkE (Kind.rowOf K) k.data.toList = 0
   · exact h5
   · rw [if_pos h5] at h1; exact absurd h1 h5
 refine ⟨h2, ?_, ?_,h1⟩
 · unfold Rec.recE at h1
   rw [if_neg (fun h => h h2)] at h1
   exact h1
 · unfold chkI at h
   rw [if_neg (fun h => h h1)] at h
   exact h
theorem chk_of {K:Int} {k u m v e:ByteArray} {L:List A2} (h1:Kind.chkE (Kind.rowOf K) k.data.toList = 0) (h2:attE L = 0) (h3:headE K u m v e = 0):chkI K k u m v e L = 0 /\ Rec.recE K k L = 0:=by
 have h4:Rec.recE K k L = 0:=by unfold Rec.recE; rw [if_neg (fun h => h h1)]; exact h2
 exact ⟨by unfold chkI; rw [if_neg (fun h => h h4)]; exact h3,h4⟩
structure ExpOk (kek:ByteArray) (K:Int) (k u m v e:ByteArray) (L:List A2) (pads:ByteArray):Prop where
 key:Aes.keyOk kek
 chk:chkI K k u m v e L = 0
 pad:(pads.size:Int) = Load.padsI (Kind.rowOf K)
 top:topI K u m v e L = 0
theorem exp_ok {kek:ByteArray} {K:Int} {k u m v e pads:ByteArray} {L:List A2} (h:expE kek K k u m v e L pads = 0):ExpOk kek K k u m v e L pads:=by
 unfold expE at h
 by_cases h0:Aes.keyOk kek
 · rw [if_neg (fun h => h h0)] at h
   by_cases h1:chkI K k u m v e L = 0
   · rw [if_neg (fun h => h h1)] at h
     by_cases h2:(pads.size:Int) = Load.padsI (Kind.rowOf K)
     · rw [if_neg (fun h => h h2)] at h
       exact ⟨h0,h1,h2,h⟩
     · rw [if_pos h2] at h; cases h
   · rw [if_pos h1] at h; exact absurd h h1
 · rw [if_pos h0] at h; cases h
theorem exp_of {kek:ByteArray} {K:Int} {k u m v e pads:ByteArray} {L:List A2} (h:ExpOk kek K k u m v e L pads):expE kek K k u m v e L pads = 0:=by
 unfold expE
 rw [if_neg (fun h2 => h2 h.key),if_neg (fun h2 => h2 h.chk),if_neg (fun h2 => h2 h.pad)]
 exact h.top
theorem exp_val {kek:ByteArray} {K:Int} {k u m v e pads:ByteArray} {L:List A2} (h:expE kek K k u m v e L pads = 0):expX kek K k u m v e L pads = Frame.joinX (topV K u m v e L) (Seal.cipK kek (topV K u m v e L) (Load.PLD k pads)) (Seal.bindK kek (topV K u m v e L) (Load.PLD k pads)):=by
 unfold expX
 rw [if_pos h]
structure Back (kek:ByteArray) (K:Int) (k u m v e:ByteArray) (L:List A2) (pads s:ByteArray):Prop where
 cut:Frame.cutE s = 0
 fl:s.extract 7 8 = LT K
 fu:s.extract 5 7 = u
 fm:s.extract 8 9 = m
 fv:s.extract 9 11 = v
 fe:s.extract 11 12 = e
 fL:Templ.fL (Frame.cutO s) = L
 opn:Opn.opened kek (s.extract 0 (Frame.cutD s)) (Frame.selC (Frame.cutR s)) (Frame.selT (Frame.cutR s)) = (Load.PLD k pads,0)
 siz:(s.size:Int) = sizI K k u m v e L
 small:s.size <= 9999
theorem back_of {kek:ByteArray} {K:Int} {k u m v e pads:ByteArray} {L:List A2} (h:expE kek K k u m v e L pads = 0) (s:ByteArray) (hs:s = expX kek K k u m v e L pads):Back kek K k u m v e L pads s:=by
 have ho:=exp_ok h
 obtain ⟨h1,h2,h3,-⟩:=chk_parts ho.chk
 obtain ⟨t1,t2,t3,t4⟩:=tt_fit K k pads h1 ho.pad
 have hc:=cip_size kek (topV K u m v e L) (Load.PLD k pads) t3
 have hcT:((Seal.cipK kek (topV K u m v e L) (Load.PLD k pads)).size:Int) = TT K:=by rw [hc,t1]
 have hg:=Seal.bindK_size kek (topV K u m v e L) (Load.PLD k pads)
 rw [exp_val h] at hs
 have htop:topV K u m v e L = Frame.topX (LT K) u m v e L ((Seal.cipK kek (topV K u m v e L) (Load.PLD k pads)).size:Int):=by rw [hcT]; rfl
 have hs2:s = Frame.joinX (Frame.topX (LT K) u m v e L ((Seal.cipK kek (topV K u m v e L) (Load.PLD k pads)).size:Int)) (Seal.cipK kek (topV K u m v e L) (Load.PLD k pads)) (Seal.bindK kek (topV K u m v e L) (Load.PLD k pads)):=by rw [<- htop]; exact hs
 obtain ⟨g1,g2,g3,g4,g5,g6,g7,g8,g9,g10⟩:=Frame.cut_top (LT K) u m v e L _ _ (by rw [hcT]; exact ho.top) hg s hs2
 rw [<- htop] at g8
 have hz:=Frame.cut_sizes s g1
 refine ⟨g1,g2,g3,g4,g5,g6,g7, ?_, ?_,by omega⟩
 · rw [g8,g9,g10]
   exact Opn.opened_sealed kek (topV K u m v e L) (Load.PLD k pads) ho.key t3
 · unfold sizI
   rw [if_neg (fun h => h ho.chk),if_neg (fun h => h ho.top)]
   have e1:(bs (Dig.hexL (Seal.cipK kek (topV K u m v e L) (Load.PLD k pads)).data.toList)).size = 2 * (Seal.cipK kek (topV K u m v e L) (Load.PLD k pads)).size:=by rw [size_bs,Dig.hexL_len]; rfl
   have e2:(bs (Dig.hexL (Seal.bindK kek (topV K u m v e L) (Load.PLD k pads)).data.toList)).size = 2 * (Seal.bindK kek (topV K u m v e L) (Load.PLD k pads)).size:=by rw [size_bs,Dig.hexL_len]; rfl
   rw [hs]
   unfold Frame.joinX
   rw [ByteArray.size_append,ByteArray.size_append,e1,e2,hg]
   omega
theorem import_back (kek:ByteArray) (K:Int) (k u m v e pads:ByteArray) (L:List A2) (h:expE kek K k u m v e L pads = 0) (hk:kek.size <= 100) (s:ByteArray) (hs:s = expX kek K k u m v e L pads):ImO 10 kek s K k u m v e L pads:=by
 have hB:=back_of h s hs
 have ho:=exp_ok h
 obtain ⟨h1,h2,h3,-⟩:=chk_parts ho.chk
 have d0:=Sched.rounds_yes kek.size ho.key _ rfl
 have h01:(((kek.size / 4 + 6:Nat):Int) == 0) = false:=by rw [beq_eq_false_iff_ne]; omega
 obtain ⟨z1,z2,z3,z4⟩:=Frame.cut_sizes s hB.cut
 have p1:(s.extract 0 (Frame.cutD s)).size <= 100000:=by rw [ByteArray.size_extract]; omega
 have p2:(Frame.selC (Frame.cutR s)).size <= 100000:=by
   have hl:=Templ.unS_le (Frame.cutR s)
   have hl2:(Frame.cutR s).length = (s.extract (Frame.cutD s) s.size).size:=rfl
   rw [ByteArray.size_extract] at hl2
   unfold Frame.selC
   split
   · rw [ByteArray.size_extract]; omega
   · decide
 have p3:(Frame.selT (Frame.cutR s)).size <= 100:=by
   unfold Frame.selT
   split
   · rw [ByteArray.size_extract]; omega
   · decide
 have c1:CutF s _ _ _ _ _ _ _ _ _:=Frame.cut_good s hB.cut
 rw [hB.fl,hB.fu,hB.fm,hB.fv,hB.fe,hB.fL] at c1
 have c2:=Opn.open_mak kek (s.extract 0 (Frame.cutD s)) (Frame.selC (Frame.cutR s)) (Frame.selT (Frame.cutR s)) hk p1 p2 p3
 rw [hB.opn] at c2
 have c3:=(Load.take_fwd K k pads h1 ho.pad).1
 exact im_ok kek s _ d0 h01 _ _ _ _ _ _ _ _ _ c1 _ c2 K k pads 0 rfl c3
theorem one_of {kek b:ByteArray} {K:Int} {k pads:ByteArray} (h0:Aes.keyOk kek) (h1:Frame.cutE b = 0) (hq:Opn.opened kek (b.extract 0 (Frame.cutD b)) (Frame.selC (Frame.cutR b)) (Frame.selT (Frame.cutR b)) = (Load.PLD k pads,0)) (g1:Kind.chkE (Kind.rowOf K) k.data.toList = 0) (g2:(pads.size:Int) = Load.padsI (Kind.rowOf K)) (g3:LT K = b.extract 7 8) :
   expE kek K k (b.extract 5 7) (b.extract 8 9) (b.extract 9 11) (b.extract 11 12) (Templ.fL (Frame.cutO b)) pads = 0 /\ expX kek K k (b.extract 5 7) (b.extract 8 9) (b.extract 9 11) (b.extract 11 12) (Templ.fL (Frame.cutO b)) pads = b /\ Rec.recE K k (Templ.fL (Frame.cutO b)) = 0:=by
 obtain ⟨t1,t2,t3,t4⟩:=tt_fit K k pads g1 g2
 have hci:Opn.cipOk (Frame.selC (Frame.cutR b)) (Frame.selT (Frame.cutR b)) /\ Opn.good kek (b.extract 0 (Frame.cutD b)) (Frame.selC (Frame.cutR b)) (Frame.selT (Frame.cutR b)) /\ Opn.plain kek (Frame.selC (Frame.cutR b)) (Frame.selT (Frame.cutR b)) = Load.PLD k pads:=by
   unfold Opn.opened at hq
   split at hq
   · cases hq
   · split at hq
     · cases hq
     · rename_i hc2
       split at hq
       · rename_i hg2
         exact ⟨by simpa using hc2,hg2,(Prod.mk.inj hq).1⟩
       · cases hq
 obtain ⟨q1,q2,q3⟩:=hci
 have hsz:=Opn.plain_size kek _ _ q1
 rw [q3] at hsz
 have hT:((Frame.selC (Frame.cutR b)).size:Int) = TT K:=by rw [<- hsz]; exact t1
 obtain ⟨w1,w2⟩:=Frame.top_cut b h1 (by omega)
 rw [hT,<- g3] at w1 w2
 have ht:=Frame.top_ok_iff _ _ _ _ _ _ _ w1
 have hat:attE (Templ.fL (Frame.cutO b)) = 0:=by
   have h9:=ht.oe
   unfold Templ.oE at h9
   by_cases h8:attE (Templ.fL (Frame.cutO b)) = 0
   · exact h8
   · rw [if_pos h8] at h9; exact absurd h9 h8
 have hhd:headE K (b.extract 5 7) (b.extract 8 9) (b.extract 9 11) (b.extract 11 12) = 0:=by unfold headE; rw [ht.ok]; rfl
 obtain ⟨r1,r2⟩:=chk_of (u:=b.extract 5 7) (m:=b.extract 8 9) (v:=b.extract 9 11) (e:=b.extract 11 12) g1 hat hhd
 have hE:expE kek K k (b.extract 5 7) (b.extract 8 9) (b.extract 9 11) (b.extract 11 12) (Templ.fL (Frame.cutO b)) pads = 0:=exp_of ⟨h0,r1,g2,w1⟩
 refine ⟨hE, ?_,r2⟩
 rw [exp_val hE]
 have hz:=Opn.sealed_opened kek (b.extract 0 (Frame.cutD b)) (Frame.selC (Frame.cutR b)) (Frame.selT (Frame.cutR b)) q1 q2
 rw [q3] at hz
 have hv:topV K (b.extract 5 7) (b.extract 8 9) (b.extract 9 11) (b.extract 11 12) (Templ.fL (Frame.cutO b)) = b.extract 0 (Frame.cutD b):=w2
 rw [hv,hz.1,hz.2]
 exact Frame.join_cut b h1
end Block
namespace Block
open Att
def AlkT (K:Int) (k u m v e:ByteArray) (L:List A2):Prop:=∀ w x y,AttsS w x L -> AttsS w y L -> Calls Tryz.prog 12 #[rv K k u m v e x,rv K k u m v e y] w fun z w' => z = .returned (.bool true) /\ Since w w'
theorem AlkT.calls0 {K:Int} {k u m v e:ByteArray} {L:List A2} (h:AlkT K k u m v e L) {w:World} {x y:Value} (hx:AttsS w x L) (hy:AttsS w y L) {R:Ending -> World -> Prop} (j:∀ w',Since w w' -> R (.returned (.bool true)) w'):Calls Tryz.prog 12 #[rv K k u m v e x,rv K k u m v e y] w R :=
 (h w x y hx hy).mono fun _ _ ⟨he,hb⟩ => by subst he; exact j _ hb
set_option maxHeartbeats 4000000 in
theorem alike_t (K:Int) (k u m v e:ByteArray) (L:List A2):AlkT K k u m v e L:=by
 intro w x y hx hy
 obtain ⟨A,q,rfl,-,-⟩:=hx.slice
 obtain ⟨B,r,rfl,-,-⟩:=hy.slice
 have c1:=attrs_same L
 have t1:(k.toList == k.toList) = true:=beq_self_eq_true _
 have t2:(u.toList == u.toList) = true:=beq_self_eq_true _
 have t3:(m.toList == m.toList) = true:=beq_self_eq_true _
 have t4:(v.toList == v.toList) = true:=beq_self_eq_true _
 have t5:(e.toList == e.toList) = true:=beq_self_eq_true _
 have ha:=lH (hb_new w KT trivial #[.int .i64 K,.string k,.slice A L.length q,.string u,.string m,.string v,.string e] 26)
 have hb:=lH (hb_new (w.alloc (.cells #[.int .i64 K,.string k,.slice A L.length q,.string u,.string m,.string v,.string e] 26)) KT trivial #[.int .i64 K,.string k,.slice B L.length r,.string u,.string m,.string v,.string e] 26)
 replace ha:=lH (ha.out.step ((Below.refl _ (w.alloc (.cells #[.int .i64 K,.string k,.slice A L.length q,.string u,.string m,.string v,.string e] 26))).alloc (Nat.le_refl _) (.cells #[.int .i64 K,.string k,.slice B L.length r,.string u,.string m,.string v,.string e] 26)))
 have HX:=lH (hx.since ha.out.since)
 have HY:=lH (hy.since ha.out.since)
 have HS:=lH ha.out.since
 obtain ⟨_,m0,m1,m2,m3,m4,m5,m6⟩:=hb7 ha
 obtain ⟨_,n0,n1,n2,n3,n4,n5,n6⟩:=hb7 hb
 rw [show (w.alloc (.cells #[.int .i64 K,.string k,.slice A L.length q,.string u,.string m,.string v,.string e] 26)).heap.size = w.heap.size + 1 by simp] at n0 n1 n2 n3 n4 n5 n6
 clear hx hy ha hb
 go_enter Tryz.func12,Tryz.ntmps12
 go_wp2_with fail
 refine c1.calls0 HX.out HY.out ?_
 intro w1 h1
 replace HS:=lH (HS.out.step h1)
 clear h1 m0 m1 m2 m3 m4 m5 m6 n0 n1 n2 n3 n4 n5 n6
 go_wp2_with fail
 go_ret
 exact ⟨rfl,HS.out⟩
end Block
end Go.Proofs.YtddlaafpianjbaaGreatDoor
