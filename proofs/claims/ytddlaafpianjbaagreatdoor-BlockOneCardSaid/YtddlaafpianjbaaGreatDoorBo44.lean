import Derived.Test.YtddlaafpianjbaaGreatDoorBo30
import Derived.Test.YtddlaafpianjbaaGreatDoorBo43
import Derived.Test.YtddlaafpianjbaaGreatDoorBo21
set_option maxRecDepth 100000
namespace Go.Proofs.YtddlaafpianjbaaGreatDoor
open Go.RowKit
namespace Frame
open Att Templ Header
def badN (l:ByteArray) (n:Int):Bool:=decide (Kind.mostN l.data.toList = 0) || decide (n < 16) || decide (4096 < n) || decide (n % 16 ≠ 0)
def pk (L:List A2):ByteArray:=Opt.packX (oL L)
def topN (L:List A2) (n:Int):Int:=16 + ((pk L).size:Int) + 2 * n + 32
def topE (l u m v e:ByteArray) (L:List A2) (n:Int):Int:=if badN l n then 1 else if Table.okB u.data.toList m.data.toList v.data.toList e.data.toList l.data.toList = false then 12 else if oE L ≠ 0 then oE L else if Opt.packE (oL L) ≠ 0 then 4 else if 9999 < topN L n then 4 else 0
def topX (l u m v e:ByteArray) (L:List A2) (n:Int):ByteArray:=if topE l u m v e L n = 0 then encX (topN L n) (Opt.packN (oL L)) l u m v e ++ pk L else ⟨#[]⟩
def RdT (l u m v e:ByteArray) (L:List A2) (n:Int) (V:Value):Prop:=∀ w x,KH w -> AttsS w x L -> Calls Tryz.prog 54 #[.string l,.agg #[.string u,.string m,.string v,.string e],x,.int .i64 n] w fun z w' => z = .returned V /\ Below w.heap.size w w'
theorem RdT.calls0 {l u m v e:ByteArray} {L:List A2} {n:Int} {V:Value} (h:RdT l u m v e L n V) {w:World} {x:Value} (hT:KH w) (hx:AttsS w x L) {R:Ending -> World -> Prop} (k:∀ w',Since w w' -> R (.returned V) w'):Calls Tryz.prog 54 #[.string l,.agg #[.string u,.string m,.string v,.string e],x,.int .i64 n] w R :=
 (h w x hT hx).mono fun _ _ ⟨he,hb⟩ => by subst he; exact k _ hb
theorem top_b1 (l u m v e:ByteArray) (L:List A2) (n:Int) (X:Int) (c1:KMk KH 84 #[.string l] (.int .i64 X)) (h:(X == 0) = true):RdT l u m v e L n (.tuple #[.string ⟨#[]⟩,.int .i64 1]):=by
 intro w x hT hx
 have hp:=lH (hb_new w KH hT #[.string u,.string m,.string v,.string e] 24)
 have HS:=lH hp.out.since
 have HX:Hid (AttsS (w.alloc (.cells #[.string u,.string m,.string v,.string e] 24)) x L):=lH (hx.since ((Since.refl w).alloc _))
 obtain ⟨_,m0,m1,m2,m3⟩:=hb4 hp
 clear hx
 go_enter Tryz.func54,Tryz.ntmps54
 go_wp2_with fail
 refine (c1.calls0 hp.out.tabs) ?_
 intro w1 h1
 replace hp:=lH (hp.out.step (Up.up h1))
 replace HX:=lH (HX.out.since (Up.up h1))
 replace HS:=lH (HS.out.step (Up.up h1))
 clear h1
 go_wp2_with fail
 go_ret2
 exact ⟨rfl,HS.out⟩
theorem top_b2 (l u m v e:ByteArray) (L:List A2) (n:Int) (X:Int) (c1:KMk KH 84 #[.string l] (.int .i64 X)) (h:(X == 0) = false) (h2:decide (n < 16) = true):RdT l u m v e L n (.tuple #[.string ⟨#[]⟩,.int .i64 1]):=by
 intro w x hT hx
 have hp:=lH (hb_new w KH hT #[.string u,.string m,.string v,.string e] 24)
 have HS:=lH hp.out.since
 have HX:Hid (AttsS (w.alloc (.cells #[.string u,.string m,.string v,.string e] 24)) x L):=lH (hx.since ((Since.refl w).alloc _))
 obtain ⟨_,m0,m1,m2,m3⟩:=hb4 hp
 clear hx
 go_enter Tryz.func54,Tryz.ntmps54
 go_wp2_with fail
 refine (c1.calls0 hp.out.tabs) ?_
 intro w1 h1
 replace hp:=lH (hp.out.step (Up.up h1))
 replace HX:=lH (HX.out.since (Up.up h1))
 replace HS:=lH (HS.out.step (Up.up h1))
 clear h1
 go_wp2_with fail
 go_ret2
 exact ⟨rfl,HS.out⟩
theorem top_b3 (l u m v e:ByteArray) (L:List A2) (n:Int) (X:Int) (c1:KMk KH 84 #[.string l] (.int .i64 X)) (h:(X == 0) = false) (h2:decide (n < 16) = false) (h3:decide (4096 < n) = true):RdT l u m v e L n (.tuple #[.string ⟨#[]⟩,.int .i64 1]):=by
 intro w x hT hx
 have hp:=lH (hb_new w KH hT #[.string u,.string m,.string v,.string e] 24)
 have HS:=lH hp.out.since
 have HX:Hid (AttsS (w.alloc (.cells #[.string u,.string m,.string v,.string e] 24)) x L):=lH (hx.since ((Since.refl w).alloc _))
 obtain ⟨_,m0,m1,m2,m3⟩:=hb4 hp
 clear hx
 go_enter Tryz.func54,Tryz.ntmps54
 go_wp2_with fail
 refine (c1.calls0 hp.out.tabs) ?_
 intro w1 h1
 replace hp:=lH (hp.out.step (Up.up h1))
 replace HX:=lH (HX.out.since (Up.up h1))
 replace HS:=lH (HS.out.step (Up.up h1))
 clear h1
 go_wp2_with fail
 go_ret2
 exact ⟨rfl,HS.out⟩
theorem top_b4 (l u m v e:ByteArray) (L:List A2) (n:Int) (X:Int) (c1:KMk KH 84 #[.string l] (.int .i64 X)) (h:(X == 0) = false) (h2:decide (n < 16) = false) (h3:decide (4096 < n) = false) (h4:(n.tmod 16 != 0) = true):RdT l u m v e L n (.tuple #[.string ⟨#[]⟩,.int .i64 1]):=by
 intro w x hT hx
 have hp:=lH (hb_new w KH hT #[.string u,.string m,.string v,.string e] 24)
 have HS:=lH hp.out.since
 have HX:Hid (AttsS (w.alloc (.cells #[.string u,.string m,.string v,.string e] 24)) x L):=lH (hx.since ((Since.refl w).alloc _))
 obtain ⟨_,m0,m1,m2,m3⟩:=hb4 hp
 clear hx
 go_enter Tryz.func54,Tryz.ntmps54
 go_wp2_with fail
 refine (c1.calls0 hp.out.tabs) ?_
 intro w1 h1
 replace hp:=lH (hp.out.step (Up.up h1))
 replace HX:=lH (HX.out.since (Up.up h1))
 replace HS:=lH (HS.out.step (Up.up h1))
 clear h1
 go_wp2_with fail
 go_ret2
 exact ⟨rfl,HS.out⟩
theorem top_b5 (l u m v e:ByteArray) (L:List A2) (n:Int) (X:Int) (c1:KMk KH 84 #[.string l] (.int .i64 X)) (h:(X == 0) = false) (h2:decide (n < 16) = false) (h3:decide (4096 < n) = false) (h4:(n.tmod 16 != 0) = false)
   (c2:KMk KH 52 #[.agg #[.string u,.string m,.string v,.string e],.string l] (.int .i64 12)):RdT l u m v e L n (.tuple #[.string ⟨#[]⟩,.int .i64 12]):=by
 intro w x hT hx
 have hp:=lH (hb_new w KH hT #[.string u,.string m,.string v,.string e] 24)
 have HS:=lH hp.out.since
 have HX:Hid (AttsS (w.alloc (.cells #[.string u,.string m,.string v,.string e] 24)) x L):=lH (hx.since ((Since.refl w).alloc _))
 obtain ⟨_,m0,m1,m2,m3⟩:=hb4 hp
 clear hx
 go_enter Tryz.func54,Tryz.ntmps54
 go_wp2_with fail
 clear m0 m1 m2 m3
 refine (c1.calls0 hp.out.tabs) ?_
 intro w1 h1
 replace hp:=lH (hp.out.step (Up.up h1))
 replace HX:=lH (HX.out.since (Up.up h1))
 replace HS:=lH (HS.out.step (Up.up h1))
 clear h1
 obtain ⟨_,m0,m1,m2,m3⟩:=hb4 hp
 go_wp2_with fail
 refine (c2.calls0 hp.out.tabs) ?_
 intro w2 h2
 replace hp:=lH (hp.out.step (Up.up h2))
 replace HX:=lH (HX.out.since (Up.up h2))
 replace HS:=lH (HS.out.step (Up.up h2))
 clear h2
 go_wp2_with fail
 go_ret2
 exact ⟨rfl,HS.out⟩
theorem top_b6 (l u m v e:ByteArray) (L:List A2) (n:Int) (hn:16 <= n /\ n <= 4096) (X:Int) (c1:KMk KH 84 #[.string l] (.int .i64 X)) (h:(X == 0) = false) (hm:n % 16 = 0)
   (c2:KMk KH 52 #[.agg #[.string u,.string m,.string v,.string e],.string l] (.int .i64 0)) (O:List Opt.P2) (E:Int) (c3:MkP 97 L O E) (hE:(E == 0) = false):RdT l u m v e L n (.tuple #[.string ⟨#[]⟩,.int .i64 E]):=by
 intro w x hT hx
 have t1:decide (n < 16) = false:=decide_eq_false (by omega)
 have t2:decide (4096 < n) = false:=decide_eq_false (by omega)
 have t3:(n % 16 != 0) = false:=bne_eq_false_iff_eq.2 hm
 have t4:(n.tmod 16 != 0) = false:=by rw [Int.tmod_eq_emod_of_nonneg (by omega)]; exact t3
 have hp:=lH (hb_new w KH hT #[.string u,.string m,.string v,.string e] 24)
 have HS:=lH hp.out.since
 have HX:Hid (AttsS (w.alloc (.cells #[.string u,.string m,.string v,.string e] 24)) x L):=lH (hx.since ((Since.refl w).alloc _))
 obtain ⟨_,m0,m1,m2,m3⟩:=hb4 hp
 clear hx
 go_enter Tryz.func54,Tryz.ntmps54
 go_wp2_with fail
 clear m0 m1 m2 m3
 refine (c1.calls0 hp.out.tabs) ?_
 intro w1 h1
 replace hp:=lH (hp.out.step (Up.up h1))
 replace HX:=lH (HX.out.since (Up.up h1))
 replace HS:=lH (HS.out.step (Up.up h1))
 clear h1
 obtain ⟨_,m0,m1,m2,m3⟩:=hb4 hp
 go_wp2_with fail
 clear m0 m1 m2 m3
 refine (c2.calls0 hp.out.tabs) ?_
 intro w2 h2
 replace hp:=lH (hp.out.step (Up.up h2))
 replace HX:=lH (HX.out.since (Up.up h2))
 replace HS:=lH (HS.out.step (Up.up h2))
 clear h2
 go_wp2_with fail
 refine (c3.calls0 HX.out) ?_
 intro v3 w3 hv3 h3
 have HV3:=lH hv3
 clear hv3
 replace hp:=lH (hp.out.step (Up.up h3))
 replace HS:=lH (HS.out.step (Up.up h3))
 clear h3
 go_wp2_with fail
 go_ret2
 exact ⟨rfl,HS.out⟩
theorem top_b8 (l u m v e:ByteArray) (L:List A2) (n:Int) (hn:16 <= n /\ n <= 4096) (X:Int) (c1:KMk KH 84 #[.string l] (.int .i64 X)) (h:(X == 0) = false) (hm:n % 16 = 0)
   (c2:KMk KH 52 #[.agg #[.string u,.string m,.string v,.string e],.string l] (.int .i64 0)) (O:List Opt.P2) (c3:MkP 97 L O 0) (P:ByteArray) (hP:P.size <= 20000) (N:Int) (c4:Opt.RdO 98 O (fun x => #[x]) (.tuple #[.string P,.int .i64 N,.int .i64 0]))
   (Z:Int) (hZ:16 + (P.size:Int) + 2 * n + 32 = Z) (h9:9999 < Z):RdT l u m v e L n (.tuple #[.string ⟨#[]⟩,.int .i64 4]):=by
 intro w x hT hx
 have t9:decide (9999 < 16 + (P.size:Int) + 2 * n + 32) = true:=decide_eq_true (by omega)
 clear hZ h9
 have t1:decide (n < 16) = false:=decide_eq_false (by omega)
 have t2:decide (4096 < n) = false:=decide_eq_false (by omega)
 have t3:(n % 16 != 0) = false:=bne_eq_false_iff_eq.2 hm
 have t4:(n.tmod 16 != 0) = false:=by rw [Int.tmod_eq_emod_of_nonneg (by omega)]; exact t3
 have hp:=lH (hb_new w KH hT #[.string u,.string m,.string v,.string e] 24)
 have HS:=lH hp.out.since
 have HX:Hid (AttsS (w.alloc (.cells #[.string u,.string m,.string v,.string e] 24)) x L):=lH (hx.since ((Since.refl w).alloc _))
 obtain ⟨_,m0,m1,m2,m3⟩:=hb4 hp
 clear hx
 go_enter Tryz.func54,Tryz.ntmps54
 go_wp2_with fail
 clear m0 m1 m2 m3
 refine (c1.calls0 hp.out.tabs) ?_
 intro w1 h1
 replace hp:=lH (hp.out.step (Up.up h1))
 replace HX:=lH (HX.out.since (Up.up h1))
 replace HS:=lH (HS.out.step (Up.up h1))
 clear h1
 obtain ⟨_,m0,m1,m2,m3⟩:=hb4 hp
 go_wp2_with fail
 clear m0 m1 m2 m3
 refine (c2.calls0 hp.out.tabs) ?_
 intro w2 h2
 replace hp:=lH (hp.out.step (Up.up h2))
 replace HX:=lH (HX.out.since (Up.up h2))
 replace HS:=lH (HS.out.step (Up.up h2))
 clear h2
 go_wp2_with fail
 refine (c3.calls0 HX.out) ?_
 intro v3 w3 hv3 h3
 have HV3:=lH hv3
 clear hv3
 replace hp:=lH (hp.out.step (Up.up h3))
 replace HS:=lH (HS.out.step (Up.up h3))
 clear h3
 go_wp2_with fail
 refine (c4.calls0 HV3.out) ?_
 intro w4 h4
 replace hp:=lH (hp.out.step (Up.up h4))
 replace HS:=lH (HS.out.step (Up.up h4))
 clear h4
 go_wp2_with fail
 go_ret2
 exact ⟨rfl,HS.out⟩
set_option maxHeartbeats 4000000 in
theorem top_ok (l u m v e:ByteArray) (L:List A2) (n:Int) (hn:16 <= n /\ n <= 4096) (X:Int) (c1:KMk KH 84 #[.string l] (.int .i64 X)) (h:(X == 0) = false) (hm:n % 16 = 0)
   (c2:KMk KH 52 #[.agg #[.string u,.string m,.string v,.string e],.string l] (.int .i64 0)) (O:List Opt.P2) (c3:MkP 97 L O 0) (P:ByteArray) (hP:P.size <= 20000) (N:Int) (c4:Opt.RdO 98 O (fun x => #[x]) (.tuple #[.string P,.int .i64 N,.int .i64 0]))
   (Z:Int) (hZ:16 + (P.size:Int) + 2 * n + 32 = Z) (h9:Z <= 9999) (H Y:ByteArray) (c5:KMk KH 99 #[.agg #[.int .i64 Z,.string l,.int .i64 N,.string u,.string m,.string v,.string e]] (.tuple #[.string H,.int .i64 0])) (hY:H ++ P = Y) (hYs:Y.size <= 40000):RdT l u m v e L n (.tuple #[.string Y,.int .i64 0]):=by
 intro w x hT hx
 have t9:decide (9999 < 16 + (P.size:Int) + 2 * n + 32) = false:=decide_eq_false (by omega)
 have HJ:=lH (fun W => Oct.join_lit W [H,P] 2 rfl #[.string H,.string P] rfl Y (by apply ba_ext; rw [list_bs,<- hY,app_list]; simp [Oct.cat]) (by omega) (by decide))
 rw [<- hZ] at c5
 clear hZ h9 hY
 have t1:decide (n < 16) = false:=decide_eq_false (by omega)
 have t2:decide (4096 < n) = false:=decide_eq_false (by omega)
 have t3:(n % 16 != 0) = false:=bne_eq_false_iff_eq.2 hm
 have t4:(n.tmod 16 != 0) = false:=by rw [Int.tmod_eq_emod_of_nonneg (by omega)]; exact t3
 have hp:=lH (hb_new w KH hT #[.string u,.string m,.string v,.string e] 24)
 have HS:=lH hp.out.since
 have HX:Hid (AttsS (w.alloc (.cells #[.string u,.string m,.string v,.string e] 24)) x L):=lH (hx.since ((Since.refl w).alloc _))
 obtain ⟨_,m0,m1,m2,m3⟩:=hb4 hp
 clear hx
 go_enter Tryz.func54,Tryz.ntmps54
 go_wp2_with fail
 clear m0 m1 m2 m3
 refine (c1.calls0 hp.out.tabs) ?_
 intro w1 h1
 replace hp:=lH (hp.out.step (Up.up h1))
 replace HX:=lH (HX.out.since (Up.up h1))
 replace HS:=lH (HS.out.step (Up.up h1))
 clear h1
 obtain ⟨_,m0,m1,m2,m3⟩:=hb4 hp
 go_wp2_with fail
 clear m0 m1 m2 m3
 refine (c2.calls0 hp.out.tabs) ?_
 intro w2 h2
 replace hp:=lH (hp.out.step (Up.up h2))
 replace HX:=lH (HX.out.since (Up.up h2))
 replace HS:=lH (HS.out.step (Up.up h2))
 clear h2
 go_wp2_with fail
 refine (c3.calls0 HX.out) ?_
 intro v3 w3 hv3 h3
 have HV3:=lH hv3
 clear hv3
 replace hp:=lH (hp.out.step (Up.up h3))
 replace HS:=lH (HS.out.step (Up.up h3))
 clear h3
 go_wp2_with fail
 refine (c4.calls0 HV3.out) ?_
 intro w4 h4
 replace hp:=lH (hp.out.step (Up.up h4))
 replace HS:=lH (HS.out.step (Up.up h4))
 clear h4
 obtain ⟨_,m0,m1,m2,m3⟩:=hb4 hp
 go_wp2_with fail
 clear m0 m1 m2 m3
 refine (c5.calls0 hp.out.tabs) ?_
 intro w5 h5
 replace hp:=lH (hp.out.step (Up.up h5))
 replace HS:=lH (HS.out.step (Up.up h5))
 clear h5
 go_wp2_with fail
 refine (HJ.out _).mono ?_
 rintro e w6 ⟨rfl,h6⟩
 replace HS:=lH (HS.out.step h6)
 go_wp2_with fail
 go_ret2
 exact ⟨rfl,HS.out⟩
end Frame
namespace Frame
open Att Templ Header
def joinX (t c g:ByteArray):ByteArray:=t ++ bs (Dig.hexL c.data.toList) ++ bs (Dig.hexL g.data.toList)
theorem join_mak (t c g:ByteArray) (h1:t.size <= 100000) (h2:c.size <= 100000) (h3:g.size <= 100000):Mak 29 #[.string t,.string c,.string g] (.string (joinX t c g)):=by
 intro w
 have HS:=lH (Since.refl w)
 have c1:Mak 61 #[.string c] (.string (bs (Dig.hexL c.data.toList))):=fun W => Dig.hex_any c W (by omega)
 have c2:Mak 61 #[.string g] (.string (bs (Dig.hexL g.data.toList))):=fun W => Dig.hex_any g W (by omega)
 have hc:c.data.toList.length = c.size:=rfl
 have hg:g.data.toList.length = g.size:=rfl
 have hs1:(bs (Dig.hexL c.data.toList)).size = 2 * c.size:=by rw [size_bs,Dig.hexL_len,hc]
 have hs2:(bs (Dig.hexL g.data.toList)).size = 2 * g.size:=by rw [size_bs,Dig.hexL_len,hg]
 obtain ⟨C,hC⟩:∃ C,bs (Dig.hexL c.data.toList) = C:=⟨_,rfl⟩
 obtain ⟨G,hG⟩:∃ G,bs (Dig.hexL g.data.toList) = G:=⟨_,rfl⟩
 obtain ⟨Y,hY⟩:∃ Y,joinX t c g = Y:=⟨_,rfl⟩
 have hY2:t ++ C ++ G = Y:=by rw [<- hY,<- hC,<- hG]; rfl
 rw [hC] at c1 hs1
 rw [hG] at c2 hs2
 rw [hY]
 have HJ:=lH (fun W => Oct.join_lit W [t,C,G] 3 rfl #[.string t,.string C,.string G] rfl Y (by apply ba_ext; rw [list_bs,<- hY2,app_list,app_list]; simp [Oct.cat]) (by rw [<- hY2]; simp only [ByteArray.size_append]; omega) (by decide))
 clear hC hG hY hY2 hc hg
 go_enter Tryz.func29,Tryz.ntmps29
 go_wp2_with fail
 repeat ((first | with_reducible refine c1.calls HS.out ?_ | with_reducible refine c2.calls HS.out ?_); intro wz hz; replace HS:=lH hz; clear hz; try go_wp2_with fail)
 refine (HJ.out _).mono ?_
 rintro e w6 ⟨rfl,h6⟩
 replace HS:=lH (HS.out.step h6)
 go_wp2_with fail
 go_ret
 exact ⟨rfl,HS.out⟩
def okT (t:List UInt8):Bool:=Dig.unB t && decide (32 <= (Dig.unS t).size) && decide ((Dig.unS t).size % 16 = 0)
def selC (t:List UInt8):ByteArray:=if okT t then (Dig.unS t).extract 0 ((Dig.unS t).size - 16) else ⟨#[]⟩
def selT (t:List UInt8):ByteArray:=if okT t then (Dig.unS t).extract ((Dig.unS t).size - 16) (Dig.unS t).size else ⟨#[]⟩
def selE (t:List UInt8):Int:=if okT t then 0 else 5
def selV (t:List UInt8):Value:=.tuple #[.string (selC t),.string (selT t),.int .i64 (selE t)]
theorem sel_b1 (t S:ByteArray) (c1:Mak 166 #[.string t] (.tuple #[.string S,.bool false]))  : Mak 118 #[.string t] (.tuple #[.string ⟨#[]⟩,.string ⟨#[]⟩,.int .i64 5]):=by
 intro w
 have HS:=lH (Since.refl w)
 go_enter Tryz.func118,Tryz.ntmps118
 go_wp2_with fail
 refine (c1.calls0) ?_
 intro w1 h1
 replace HS:=lH (HS.out.step (Up.up h1))
 clear h1
 go_wp2_with fail
 go_ret3
 exact ⟨rfl,HS.out⟩
theorem sel_b2 (t S:ByteArray) (c1:Mak 166 #[.string t] (.tuple #[.string S,.bool true])) (h:decide ((S.size:Int) < 32) = true):Mak 118 #[.string t] (.tuple #[.string ⟨#[]⟩,.string ⟨#[]⟩,.int .i64 5]):=by
 intro w
 have HS:=lH (Since.refl w)
 go_enter Tryz.func118,Tryz.ntmps118
 go_wp2_with fail
 refine (c1.calls0) ?_
 intro w1 h1
 replace HS:=lH (HS.out.step (Up.up h1))
 clear h1
 go_wp2_with fail
 go_ret3
 exact ⟨rfl,HS.out⟩
theorem sel_b3 (t S:ByteArray) (c1:Mak 166 #[.string t] (.tuple #[.string S,.bool true])) (h:decide ((S.size:Int) < 32) = false) (h2:((S.size:Int) % 16 != 0) = true) (_h3:((S.size:Int).tmod 16 != 0) = true):Mak 118 #[.string t] (.tuple #[.string ⟨#[]⟩,.string ⟨#[]⟩,.int .i64 5]):=by
 intro w
 have HS:=lH (Since.refl w)
 go_enter Tryz.func118,Tryz.ntmps118
 go_wp2_with fail
 refine (c1.calls0) ?_
 intro w1 h1
 replace HS:=lH (HS.out.step (Up.up h1))
 clear h1
 go_wp2_with fail
 go_ret3
 exact ⟨rfl,HS.out⟩
theorem sel_ok (t S:ByteArray) (c1:Mak 166 #[.string t] (.tuple #[.string S,.bool true])) (hs:S.size <= 1000000) (h32:32 <= S.size) (h16:S.size % 16 = 0):Mak 118 #[.string t] (.tuple #[.string (S.extract 0 (S.size - 16)),.string (S.extract (S.size - 16) S.size),.int .i64 0]):=by
 intro w
 have HS:=lH (Since.refl w)
 have h:decide ((S.size:Int) < 32) = false:=decide_eq_false (by omega)
 have h2:((S.size:Int) % 16 != 0) = false:=bne_eq_false_iff_eq.2 (by omega)
 have h3:((S.size:Int).tmod 16 != 0) = false:=bne_eq_false_iff_eq.2 (by rw [Int.tmod_eq_emod_of_nonneg (by omega)]; omega)
 obtain ⟨m,hm⟩:∃ m:Nat,m = S.size - 16:=⟨_,rfl⟩
 have e1:IntKind.i64.wrap ((S.size:Int) - 16) = (m:Int):=by rw [IntWalk.i64_in _ (by omega)]; omega
 have e2:(S.size:Int) - 16 = (m:Int):=by omega
 have i1:(0:Int) <= (m:Int):=by omega
 have i2:(m:Int) <= (S.size:Int):=by omega
 rw [<- hm]
 clear hm h16
 go_enter Tryz.func118,Tryz.ntmps118
 go_wp2_with fail
 refine (c1.calls0) ?_
 intro w1 h1
 replace HS:=lH (HS.out.step (Up.up h1))
 clear h1
 go_wp2_with fail
 go_quiet (fail)
 replace HS:=lH (HS.out.step (belowN _ nq))
 go_wp2_with fail
 go_ret3
 exact ⟨rfl,HS.out⟩
theorem sealed_mak (t:ByteArray) (hm:t.size <= 1000000):Mak 118 #[.string t] (selV t.data.toList):=by
 have c1:=unhex_all t hm
 have hl:=unS_le t.data.toList
 have htl:t.data.toList.length = t.size:=rfl
 unfold selV selC selT selE
 by_cases hok:okT t.data.toList = true
 · rw [if_pos hok,if_pos hok,if_pos hok]
   unfold okT at hok
   simp only [Bool.and_eq_true,decide_eq_true_eq] at hok
   obtain ⟨⟨h1,h2⟩,h3⟩:=hok
   rw [h1] at c1
   exact sel_ok t _ c1 (by omega) h2 h3
 · rw [if_neg hok,if_neg hok,if_neg hok]
   cases hb:Dig.unB t.data.toList with
   | false => rw [hb] at c1; exact sel_b1 t _ c1
   | true =>
     rw [hb] at c1
     by_cases h2:(Dig.unS t.data.toList).size < 32
     · exact sel_b2 t _ c1 (decide_eq_true (by omega))
     · have h3:(Dig.unS t.data.toList).size % 16 ≠ 0:=fun h => hok (by unfold okT; rw [hb,decide_eq_true (by omega),decide_eq_true h]; rfl)
       exact sel_b3 t _ c1 (decide_eq_false (by omega)) (bne_iff_ne.2 (by omega)) (bne_iff_ne.2 (by rw [Int.tmod_eq_emod_of_nonneg (by omega)]; omega))
def begE (s:ByteArray):Int:=if s.size = 0 then 3 else if 9999 < s.size then 4 else if Header.decE s ≠ 0 then Header.decE s else if Dig.numD (s.extract 1 5).data.toList ≠ s.size then 5 else 0
def begV (s:ByteArray):Array Value:=if begE s = 0 then Header.decV s else Z7
theorem beg_early (s:ByteArray) (E:Int) (h:(s.size = 0 /\ E = 3) ∨ (9999 < s.size /\ E = 4)):KMk KH 115 #[.string s] (.tuple #[.agg Z7,.int .i64 E]):=by
 intro w hT
 have HB:=lH (heap_alloc_new w (.cells Z7 112))
 unfold Z7 at HB
 rcases h with ⟨h,rfl⟩ | ⟨h,rfl⟩
 · obtain rfl:s = ⟨#[]⟩:=by apply ba_ext; exact List.length_eq_zero_iff.1 h
   clear h
   go_enter Tryz.func115,Tryz.ntmps115
   go_wp2_with (refine wpList_store_row rfl 112 _ _ rfl w.heap.size (C7 0 0 ⟨#[]⟩ ⟨#[]⟩ ⟨#[]⟩ ⟨#[]⟩ ⟨#[]⟩) (by rfl) (by rfl) _ _ HB.out (c7_info _ _ _ _ _ _ _) rfl (c7_one _ _ _ _ _ _ _) ?_)
   exact bodyPost_ret (v:=.tuple #[.agg Z7,.int .i64 3]) (results_cell_tmp2 Tryz.results115 _ _ _ _ _ _ _ _ rfl rfl (setRow_heap _ _ _ _ _ _ HB.out) Tryz.underlying112 rfl (c7_info _ _ _ _ _ _ _)) rfl ⟨rfl,below_setRow ((Since.refl w).alloc _) (Nat.le_refl _) _⟩
 · have b1:=some_bytes s (by omega)
   have b2:=some_bytes_f s (by omega)
   have t1:decide ((9999:Int) < (s.size:Int)) = true:=decide_eq_true (by omega)
   clear h
   go_enter Tryz.func115,Tryz.ntmps115
   go_wp2_with (refine wpList_store_row rfl 112 _ _ rfl w.heap.size (C7 0 0 ⟨#[]⟩ ⟨#[]⟩ ⟨#[]⟩ ⟨#[]⟩ ⟨#[]⟩) (by rfl) (by rfl) _ _ HB.out (c7_info _ _ _ _ _ _ _) rfl (c7_one _ _ _ _ _ _ _) ?_)
   exact bodyPost_ret (v:=.tuple #[.agg Z7,.int .i64 4]) (results_cell_tmp2 Tryz.results115 _ _ _ _ _ _ _ _ rfl rfl (setRow_heap _ _ _ _ _ _ HB.out) Tryz.underlying112 rfl (c7_info _ _ _ _ _ _ _)) rfl ⟨rfl,below_setRow ((Since.refl w).alloc _) (Nat.le_refl _) _⟩
theorem beg_err (s:ByteArray) (h0:0 < s.size) (h9:s.size <= 9999) (n k E:Int) (l u m v e:ByteArray) (hE:(E == 0) = false) (c1:KMk KH 163 #[.string s] (.tuple #[.agg #[.int .i64 n,.string l,.int .i64 k,.string u,.string m,.string v,.string e],.int .i64 E])):KMk KH 115 #[.string s] (.tuple #[.agg (C7 n k l u m v e),.int .i64 E]):=by
 intro w hT
 have hr:Hid (HR w w.heap.size Z7 112 (w.alloc (.cells Z7 112))):=lH ⟨heap_alloc_new w _⟩
 have HS:Hid (Since w (w.alloc (.cells Z7 112))):=lH ((Since.refl w).alloc _)
 have HT:Hid (KH (w.alloc (.cells Z7 112))):=lH (Kp.keep hT ((Below.refl _ w).alloc (Nat.le_refl _) _))
 unfold Z7 at hr HS HT
 have b1:=some_bytes s (by omega)
 have b2:=some_bytes_f s (by omega)
 have t1:decide ((9999:Int) < (s.size:Int)) = false:=decide_eq_false (by omega)
 clear hT
 go_enter Tryz.func115,Tryz.ntmps115
 go_wp2_with fail
 refine (c1.calls0 HT.out) ?_
 intro w1 h1
 replace hr:=lH (hr.out.step (Up.up h1))
 replace HS:=lH (HS.out.step (Up.up h1))
 clear h1
 have hr2:Hid (HR w w.heap.size #[.int .i64 0,.string ⟨#[]⟩,.int .i64 0,.string ⟨#[]⟩,.string ⟨#[]⟩,.string ⟨#[]⟩,.string ⟨#[]⟩] 112 (w1.alloc (.cells #[.int .i64 n,.string l,.int .i64 k,.string u,.string m,.string v,.string e] 112))):=lH (hr_old hr.out _)
 have HS2:=lH (HS.out.alloc (.cells #[.int .i64 n,.string l,.int .i64 k,.string u,.string m,.string v,.string e] 112))
 clear hr HS HT
 go_wp2_with (refine wpList_store_row rfl 112 _ _ rfl w.heap.size (C7 n k l u m v e) (by rfl) (by rfl) _ _ hr2.out.row (c7_info _ _ _ _ _ _ _) rfl (c7_one _ _ _ _ _ _ _) ?_)
 exact bodyPost_ret (v:=.tuple #[.agg (C7 n k l u m v e),.int .i64 E]) (results_cell_tmp2 Tryz.results115 _ _ _ _ _ _ _ _ rfl rfl (setRow_heap _ _ _ _ _ _ hr2.out.row) Tryz.underlying112 rfl (c7_info _ _ _ _ _ _ _)) rfl ⟨rfl,below_setRow HS2.out (Nat.le_refl _) _⟩
theorem beg_len (s:ByteArray) (h0:0 < s.size) (h9:s.size <= 9999) (n k _E:Int) (l u m v e:ByteArray) (hE:(n == (s.size:Int)) = false) (c1:KMk KH 163 #[.string s] (.tuple #[.agg #[.int .i64 n,.string l,.int .i64 k,.string u,.string m,.string v,.string e],.int .i64 0])):KMk KH 115 #[.string s] (.tuple #[.agg (C7 0 0 ⟨#[]⟩ ⟨#[]⟩ ⟨#[]⟩ ⟨#[]⟩ ⟨#[]⟩),.int .i64 5]):=by
 intro w hT
 have hr:Hid (HR w w.heap.size Z7 112 (w.alloc (.cells Z7 112))):=lH ⟨heap_alloc_new w _⟩
 have HS:Hid (Since w (w.alloc (.cells Z7 112))):=lH ((Since.refl w).alloc _)
 have HT:Hid (KH (w.alloc (.cells Z7 112))):=lH (Kp.keep hT ((Below.refl _ w).alloc (Nat.le_refl _) _))
 unfold Z7 at hr HS HT
 have b1:=some_bytes s (by omega)
 have b2:=some_bytes_f s (by omega)
 have t1:decide ((9999:Int) < (s.size:Int)) = false:=decide_eq_false (by omega)
 clear hT
 go_enter Tryz.func115,Tryz.ntmps115
 go_wp2_with fail
 refine (c1.calls0 HT.out) ?_
 intro w1 h1
 replace hr:=lH (hr.out.step (Up.up h1))
 replace HS:=lH (HS.out.step (Up.up h1))
 clear h1
 have hr2:Hid (HR w w.heap.size #[.int .i64 0,.string ⟨#[]⟩,.int .i64 0,.string ⟨#[]⟩,.string ⟨#[]⟩,.string ⟨#[]⟩,.string ⟨#[]⟩] 112 (w1.alloc (.cells #[.int .i64 n,.string l,.int .i64 k,.string u,.string m,.string v,.string e] 112))):=lH (hr_old hr.out _)
 have HS2:=lH (HS.out.alloc (.cells #[.int .i64 n,.string l,.int .i64 k,.string u,.string m,.string v,.string e] 112))
 clear hr HS HT
 go_wp2_with (refine wpList_store_row rfl 112 _ _ rfl w.heap.size (C7 0 0 ⟨#[]⟩ ⟨#[]⟩ ⟨#[]⟩ ⟨#[]⟩ ⟨#[]⟩) (by rfl) (by rfl) _ _ hr2.out.row (c7_info _ _ _ _ _ _ _) rfl (c7_one _ _ _ _ _ _ _) ?_)
 exact bodyPost_ret (v:=.tuple #[.agg (C7 0 0 ⟨#[]⟩ ⟨#[]⟩ ⟨#[]⟩ ⟨#[]⟩ ⟨#[]⟩),.int .i64 5]) (results_cell_tmp2 Tryz.results115 _ _ _ _ _ _ _ _ rfl rfl (setRow_heap _ _ _ _ _ _ hr2.out.row) Tryz.underlying112 rfl (c7_info _ _ _ _ _ _ _)) rfl ⟨rfl,below_setRow HS2.out (Nat.le_refl _) _⟩
theorem beg_ok (s:ByteArray) (h0:0 < s.size) (h9:s.size <= 9999) (n k _E:Int) (l u m v e:ByteArray) (hE:(n == (s.size:Int)) = true) (c1:KMk KH 163 #[.string s] (.tuple #[.agg #[.int .i64 n,.string l,.int .i64 k,.string u,.string m,.string v,.string e],.int .i64 0])):KMk KH 115 #[.string s] (.tuple #[.agg (C7 n k l u m v e),.int .i64 0]):=by
 intro w hT
 have hr:Hid (HR w w.heap.size Z7 112 (w.alloc (.cells Z7 112))):=lH ⟨heap_alloc_new w _⟩
 have HS:Hid (Since w (w.alloc (.cells Z7 112))):=lH ((Since.refl w).alloc _)
 have HT:Hid (KH (w.alloc (.cells Z7 112))):=lH (Kp.keep hT ((Below.refl _ w).alloc (Nat.le_refl _) _))
 unfold Z7 at hr HS HT
 have b1:=some_bytes s (by omega)
 have b2:=some_bytes_f s (by omega)
 have t1:decide ((9999:Int) < (s.size:Int)) = false:=decide_eq_false (by omega)
 clear hT
 go_enter Tryz.func115,Tryz.ntmps115
 go_wp2_with fail
 refine (c1.calls0 HT.out) ?_
 intro w1 h1
 replace hr:=lH (hr.out.step (Up.up h1))
 replace HS:=lH (HS.out.step (Up.up h1))
 clear h1
 have hr2:Hid (HR w w.heap.size #[.int .i64 0,.string ⟨#[]⟩,.int .i64 0,.string ⟨#[]⟩,.string ⟨#[]⟩,.string ⟨#[]⟩,.string ⟨#[]⟩] 112 (w1.alloc (.cells #[.int .i64 n,.string l,.int .i64 k,.string u,.string m,.string v,.string e] 112))):=lH (hr_old hr.out _)
 have HS2:=lH (HS.out.alloc (.cells #[.int .i64 n,.string l,.int .i64 k,.string u,.string m,.string v,.string e] 112))
 clear hr HS HT
 go_wp2_with (refine wpList_store_row rfl 112 _ _ rfl w.heap.size (C7 n k l u m v e) (by rfl) (by rfl) _ _ hr2.out.row (c7_info _ _ _ _ _ _ _) rfl (c7_one _ _ _ _ _ _ _) ?_)
 exact bodyPost_ret (v:=.tuple #[.agg (C7 n k l u m v e),.int .i64 0]) (results_cell_tmp2 Tryz.results115 _ _ _ _ _ _ _ _ rfl rfl (setRow_heap _ _ _ _ _ _ hr2.out.row) Tryz.underlying112 rfl (c7_info _ _ _ _ _ _ _)) rfl ⟨rfl,below_setRow HS2.out (Nat.le_refl _) _⟩
theorem begin_k (s:ByteArray) (hm:s.size <= 1000000):KMk KH 115 #[.string s] (.tuple #[.agg (begV s),.int .i64 (begE s)]):=by
 unfold begV
 by_cases h0:s.size = 0
 · have e:begE s = 3:=if_pos h0
   rw [e,if_neg (by decide)]
   exact beg_early s 3 (Or.inl ⟨h0,rfl⟩)
 by_cases h9:9999 < s.size
 · have e:begE s = 4:=by unfold begE; rw [if_neg h0,if_pos h9]
   rw [e,if_neg (by decide)]
   exact beg_early s 4 (Or.inr ⟨h9,rfl⟩)
 have c1:=dec_any s hm
 rcases dec_cases s with ⟨hE,hV⟩ | ⟨hE,hF,hk⟩
 · have e:begE s = Header.decE s:=by unfold begE; rw [if_neg h0,if_neg h9,if_pos hE]
   rw [e,if_neg hE]
   rw [hV] at c1
   exact beg_err s (by omega) (by omega) 0 0 _ _ _ _ _ _ (beq_eq_false_iff_ne.2 hE) c1
 · have hv:Header.decV s = C7 (Dig.numD (s.extract 1 5).data.toList:Int) (Dig.numD (s.extract 12 14).data.toList:Int) (s.extract 7 8) (s.extract 5 7) (s.extract 8 9) (s.extract 9 11) (s.extract 11 12):=if_pos ⟨hF,hk⟩
   rw [hv,hE] at c1
   by_cases hn:Dig.numD (s.extract 1 5).data.toList = s.size
   · have e:begE s = 0:=by unfold begE; rw [if_neg h0,if_neg h9,if_neg (fun h => h hE),if_neg (fun h => h hn)]
     rw [e,if_pos rfl,hv]
     exact beg_ok s (by omega) (by omega) _ _ 0 _ _ _ _ _ (by rw [hn]; exact beq_self_eq_true _) c1
   · have e:begE s = 5:=by unfold begE; rw [if_neg h0,if_neg h9,if_neg (fun h => h hE),if_pos hn]
     rw [e,if_neg (by decide)]
     exact beg_len s (by omega) (by omega) _ _ 0 _ _ _ _ _ (beq_eq_false_iff_ne.2 (by omega)) c1
end Frame
end Go.Proofs.YtddlaafpianjbaaGreatDoor
namespace Go
@[go_sem] theorem run_store_complex {P:Program} {w:World} {a:Addr} {m:Mode} (k:FloatKind) (x y:Nat):(store a (.complex k x y) m).run P w = stored P w a (.complex k x y) m:=run_store P w a _ m rfl
end Go
namespace Go.Proofs.YtddlaafpianjbaaGreatDoor
open Go.RowKit
theorem heap_setCell_row {W:World} {g:Nat} {C:Array Value} {T:TypeId} (h:W.heap[g]? = some (.cells C T (0,0))) (i:Nat) (v:Value):(W.setCell ⟨g,i,none⟩ v).heap[g]? = some (.cells (C.setIfInBounds i v) T (0,0)):=by
 unfold World.setCell
 simp [Array.getElem?_modify,h]
theorem row_cell? {W:World} {g:Nat} {C:Array Value} {T:TypeId} (h:W.heap[g]? = some (.cells C T (0,0))) (i:Nat) (v:Value) (hv:C[i]? = some v):W.cell? ⟨g,i,none⟩ = some v:=by
 unfold World.cell?
 rw [h]; exact hv
theorem row_free {W:World} {g:Nat} {C:Array Value} {T:TypeId} (h:W.heap[g]? = some (.cells C T (0,0))) (i:Nat):W.frozen? ⟨g,i,none⟩ = false:=by
 unfold World.frozen?
 rw [h]; simp
namespace Frame
open Att Templ Header
def _root_.Go.Value.blockOf:Value -> Option Nat
 | .slice (some A) _ _ => some A.block
 | _ => none
theorem fresh_ne {n g:Nat} {v:Value} (h:Fresh n v) (hg:g < n):∀ b,v.blockOf = some b -> b ≠ g:=by
 intro b hb e
 match v,hb with
 | .slice (some A) l c,hb =>
   have h2:=h A l c rfl
   cases hb
   omega
theorem far_atts {W:World} {v:Value} {L:List A2} (h:AttsS W v L) (g:Nat) (hne:∀ b,v.blockOf = some b -> b ≠ g) (i:Nat) (x:Value):AttsS (W.setCell ⟨g,i,none⟩ x) v L:=by
 obtain ⟨h1,A,c,rfl,h2,h3,h4⟩:=h
 refine ⟨h1,A,c,rfl,h2,h3, ?_⟩
 rcases h4 with h4 | ⟨b,o,rfl,hlt,hc⟩
 · exact Or.inl h4
 · refine Or.inr ⟨b,o,rfl,by simpa using hlt,fun j u hu => ?_⟩
   have hb:=hne b rfl
   rw [World.cell?_setCell_far W ⟨g,i,none⟩ ⟨b,o + j,none⟩ x (fun e => hb e.symm)]
   exact hc j u hu
def Z9:Array Value:=#[.string ⟨#[]⟩,.string ⟨#[]⟩,.string ⟨#[]⟩,.string ⟨#[]⟩,.string ⟨#[]⟩,.slice none 0 0,.string ⟨#[]⟩,.string ⟨#[]⟩,.string ⟨#[]⟩]
def Z4:Array Value:=#[.complex .f64 0 0,.complex .f64 0 0,.complex .f64 0 0,.complex .f64 0 0]
structure SP (w:World) (C:Array Value) (W:World):Prop where
 since:Since w W
 tabs:KH W
 r2:W.heap[w.heap.size]? = some (.cells Z9 53 (0,0))
 r3:W.heap[w.heap.size + 1]? = some (.cells Z4 85 (0,0))
 rf:W.heap[w.heap.size + 1 + 1]? = some (.cells C 53 (0,0))
theorem SP.step {w:World} {C:Array Value} {W W':World} (h:SP w C W) (hb:Below W.heap.size W W'):SP w C W' :=
 ⟨h.since.step hb,Kp.keep h.tabs hb,(hb.block _ (Array.getElem?_eq_some_iff.1 h.r2).1).trans h.r2,(hb.block _ (Array.getElem?_eq_some_iff.1 h.r3).1).trans h.r3,(hb.block _ (Array.getElem?_eq_some_iff.1 h.rf).1).trans h.rf⟩
theorem sp_new (w:World) (hT:KH w):SP w Z9 (((w.alloc (.cells Z9 53)).alloc (.cells Z4 85)).alloc (.cells Z9 53)):=by
 have h0:=heap_alloc_new w (.cells Z9 53)
 have h1:=heap_alloc_new (w.alloc (.cells Z9 53)) (.cells Z4 85)
 have h2:=heap_alloc_new ((w.alloc (.cells Z9 53)).alloc (.cells Z4 85)) (.cells Z9 53)
 have e1:(w.alloc (.cells Z9 53)).heap.size = w.heap.size + 1:=by simp
 have e2:((w.alloc (.cells Z9 53)).alloc (.cells Z4 85)).heap.size = w.heap.size + 1 + 1:=by simp
 rw [e1] at h1
 rw [e2] at h2
 refine ⟨(((Since.refl w).alloc _).alloc _).alloc _, ?_, ?_, ?_,h2⟩
 · exact Kp.keep hT ((((Since.refl w).alloc _).alloc _).alloc _)
 · exact (heap_alloc_old _ _ (by simp; omega)).trans ((heap_alloc_old _ _ (by simp)).trans h0)
 · exact (heap_alloc_old _ _ (by simp)).trans h1
theorem keep_far {w W:World} (h:Since w W) (p:Addr) (hp:w.heap.size <= p.block) (v:Value):Since w (W.setCell p v):=Below.setCell h hp v
theorem SP.set {w:World} {C:Array Value} {W:World} (h:SP w C W) (hT:KH w) (i:Nat) (v:Value) (C':Array Value) (hC:C.setIfInBounds i v = C'):SP w C' (W.setCell ⟨w.heap.size + 1 + 1,i,none⟩ v):=by
 subst hC
 have hs:=keep_far h.since ⟨w.heap.size + 1 + 1,i,none⟩ (by show w.heap.size <= w.heap.size + 1 + 1; omega) v
 exact ⟨hs,Kp.keep hT hs,(Go.Deep.blk_setCell_other _ _ _ _ (by show w.heap.size ≠ w.heap.size + 1 + 1; omega)).trans h.r2,(Go.Deep.blk_setCell_other _ _ _ _ (by show w.heap.size + 1 ≠ w.heap.size + 1 + 1; omega)).trans h.r3,heap_setCell_row h.rf i v⟩
theorem far_cell {W:World} {g i:Nat} {p:Addr} {x y:Value} (h:W.cell? p = some x) (hne:p.block ≠ g):(W.setCell ⟨g,i,none⟩ y).cell? p = some x:=(World.cell?_setCell_far W ⟨g,i,none⟩ p y (fun e => hne e.symm)).trans h
theorem z9_info:(Tryz.prog.info? 53).map (·.size) = some Z9.size:=by kernel_rfl
theorem z4_info:(Tryz.prog.info? 85).map (·.size) = some Z4.size:=by kernel_rfl
def C9 (l u m v e:ByteArray) (x:Value) (t c g:ByteArray):Array Value:=#[.string l,.string u,.string m,.string v,.string e,x,.string t,.string c,.string g]
def CX (D M Z:Nat):Array Value:=#[.complex .f64 (Flt.fl 0) (Flt.fl 16),.complex .f64 (Flt.fl 16) (Flt.fl (D:Int)),.complex .f64 (Flt.fl (D:Int)) (Flt.fl (M:Int)),.complex .f64 (Flt.fl (M:Int)) (Flt.fl (Z:Int))]
theorem c9_info (l u m v e:ByteArray) (x:Value) (t c g:ByteArray):(Tryz.prog.info? 53).map (·.size) = some (C9 l u m v e x t c g).size:=by kernel_rfl
theorem cx_info (D M Z:Nat):(Tryz.prog.info? 85).map (·.size) = some (CX D M Z).size:=by kernel_rfl
theorem c9_one (l u m v e:ByteArray) (A:Option Addr) (n k:Nat) (t c g:ByteArray):(C9 l u m v e (.slice A n k) t c g).all (·.oneCell') = true:=by
 rw [Array.all_eq_true]
 intro i hi
 match i,hi with
 | 0,_ | 1,_ | 2,_ | 3,_ | 4,_ | 5,_ | 6,_ | 7,_ | 8,_ => rfl
theorem z9_one:Z9.all (·.oneCell') = true:=by
 rw [Array.all_eq_true]
 intro i hi
 match i,hi with
 | 0,_ | 1,_ | 2,_ | 3,_ | 4,_ | 5,_ | 6,_ | 7,_ | 8,_ => rfl
theorem z4_one:Z4.all (·.oneCell') = true:=by
 rw [Array.all_eq_true]
 intro i hi
 match i,hi with
 | 0,_ | 1,_ | 2,_ | 3,_ => rfl
theorem results_cc_tmp {P:Program} {fn:Func} {p q u:Tmp} {ty sy:TypeId} (h:fn.results = #[.cell p ty,.cell q sy,.tmp u]) (tmps:Array Value) (w:World) (g k:Nat) (t s:TypeId) (cs ds:Array Value) (fr gr:Nat × Nat) (d d':TypeDesc) (v:Value)
   (hp:tmps.getD p undef = .pointer (some ⟨g,0,none⟩)) (hq:tmps.getD q undef = .pointer (some ⟨k,0,none⟩)) (hv:tmps.getD u undef = v) (hg:w.heap[g]? = some (.cells cs t fr)) (hk:w.heap[k]? = some (.cells ds s gr))
   (hu:P.underlying ty = some d) (hd:(match d with | .struct _ | .array _ _ => true | _ => false) = true) (hi:(P.info? ty).map (·.size) = some cs.size)
   (hu':P.underlying sy = some d') (hd':(match d' with | .struct _ | .array _ _ => true | _ => false) = true) (hi':(P.info? sy).map (·.size) = some ds.size) :
   (results fn tmps).run P w = .ok (.tuple #[.agg cs,.agg ds,v]) w:=by
 subst hv
 have hp':tmps[p]?.getD undef = .pointer (some ⟨g,0,none⟩):=by simpa using hp
 have hq':tmps[q]?.getD undef = .pointer (some ⟨k,0,none⟩):=by simpa using hq
 simp [results,h,hp',hq',asAddr,run_loadVar_row w g t ty cs fr d hg hu hd hi,run_loadVar_row w k s sy ds gr d' hk hu' hd' hi']
theorem two_rows {w W:World} {C A B:Array Value} (h:SP w C W):((W.setRow w.heap.size A).setRow (w.heap.size + 1) B).heap[w.heap.size]? = some (.cells A 53 (0,0)) /\ ((W.setRow w.heap.size A).setRow (w.heap.size + 1) B).heap[w.heap.size + 1]? = some (.cells B 85 (0,0)) /\ Since w ((W.setRow w.heap.size A).setRow (w.heap.size + 1) B):=by
 have h2:=setRow_heap W w.heap.size _ A _ _ h.r2
 have h3:(W.setRow w.heap.size A).heap[w.heap.size + 1]? = _:=(setRow_other _ _ _ _ (by omega)).trans h.r3
 exact ⟨(setRow_other _ _ _ _ (by omega)).trans h2,setRow_heap _ _ _ _ _ _ h3,below_setRow (below_setRow h.since (Nat.le_refl _) _) (by omega) _⟩
def noF (E:Int):Value:=.tuple #[.agg Z9,.agg Z4,.int .i64 E]
set_option maxHeartbeats 8000000 in
theorem spl_b (s:ByteArray) (_V:Array Value) (E:Int) (hE:(E == 0) = false) (n k:Int) (l u m v e:ByteArray) (c1:KMk KH 115 #[.string s] (.tuple #[.agg #[.int .i64 n,.string l,.int .i64 k,.string u,.string m,.string v,.string e],.int .i64 E])):KMk KH 71 #[.string s] (noF E):=by
 intro w hT
 have hs:=lH (sp_new w hT)
 have HS:=lH hs.out.since
 have HT0:=lH hT
 unfold Z9 Z4 at hs HS
 clear hT
 go_enter Tryz.func71,Tryz.ntmps71
 go_wp2_with fail
 refine wp_scope_some 1 ?_
 go_wp2_with fail
 refine (c1.calls0 hs.out.tabs) ?_
 intro w1 h1
 replace hs:=lH (hs.out.step (Up.up h1))
 replace HS:=lH (HS.out.step (Up.up h1))
 clear h1
 replace hs:Hid (SP w _ (w1.alloc (.cells #[.int .i64 n,.string l,.int .i64 k,.string u,.string m,.string v,.string e] 112))):=lH (hs.out.step ((Below.refl _ _).alloc (Nat.le_refl _) _))
 go_wp2_with fail
 go_step3
 refine ⟨_,rfl, ?_⟩
 go_wp2_with (first
   | (refine wpList_store_row rfl 53 _ _ rfl w.heap.size Z9 (by rfl) (by rfl) _ _ hs.out.r2 z9_info rfl z9_one ?_)
   | (refine wpList_store_row rfl 85 _ _ rfl (w.heap.size + 1) Z4 (by rfl) (by rfl) _ _ ((setRow_other _ _ _ _ (by omega)).trans hs.out.r3) z4_info rfl z4_one ?_))
 exact bodyPost_ret (v:=noF E) (results_cc_tmp Tryz.results71 _ _ _ _ _ _ _ _ _ _ _ _ _ rfl rfl rfl (two_rows hs.out).1 (two_rows hs.out).2.1 Tryz.underlying53 rfl z9_info Tryz.underlying85 rfl z4_info) rfl ⟨rfl,(two_rows hs.out).2.2⟩
def W6 (W:World) (g:Nat) (l u m v e:ByteArray):World:=(((((W.setCell ⟨g,0,none⟩ (.string l)).setCell ⟨g,1,none⟩ (.string u)).setCell ⟨g,2,none⟩ (.string m)).setCell ⟨g,3,none⟩ (.string v)).setCell ⟨g,4,none⟩ (.string e)).drew
theorem W6.sp {w W:World} (h:SP w Z9 W) (hT:KH w) (l u m v e:ByteArray):SP w (C9 l u m v e (.slice none 0 0) ⟨#[]⟩ ⟨#[]⟩ ⟨#[]⟩) (W6 W (w.heap.size + 1 + 1) l u m v e):=by
 have h0:=h.set hT 0 (.string l) (C9 l ⟨#[]⟩ ⟨#[]⟩ ⟨#[]⟩ ⟨#[]⟩ (.slice none 0 0) ⟨#[]⟩ ⟨#[]⟩ ⟨#[]⟩) (by simp [Z9,C9])
 have h1:=h0.set hT 1 (.string u) (C9 l u ⟨#[]⟩ ⟨#[]⟩ ⟨#[]⟩ (.slice none 0 0) ⟨#[]⟩ ⟨#[]⟩ ⟨#[]⟩) (by simp [C9])
 have h2:=h1.set hT 2 (.string m) (C9 l u m ⟨#[]⟩ ⟨#[]⟩ (.slice none 0 0) ⟨#[]⟩ ⟨#[]⟩ ⟨#[]⟩) (by simp [C9])
 have h3:=h2.set hT 3 (.string v) (C9 l u m v ⟨#[]⟩ (.slice none 0 0) ⟨#[]⟩ ⟨#[]⟩ ⟨#[]⟩) (by simp [C9])
 have h4:=h3.set hT 4 (.string e) (C9 l u m v e (.slice none 0 0) ⟨#[]⟩ ⟨#[]⟩ ⟨#[]⟩) (by simp [C9])
 unfold W6
 exact h4.step (Below.drew (Below.refl _ _))
theorem W6.far {W:World} {g:Nat} {p:Addr} {x:Value} (h:W.cell? p = some x) (hne:p.block ≠ g) (l u m v e:ByteArray):(W6 W g l u m v e).cell? p = some x:=by
 have h0:=far_cell (i:=0) (y:=.string l) h hne
 have h1:=far_cell (i:=1) (y:=.string u) h0 hne
 have h2:=far_cell (i:=2) (y:=.string m) h1 hne
 have h3:=far_cell (i:=3) (y:=.string v) h2 hne
 have h4:=far_cell (i:=4) (y:=.string e) h3 hne
 unfold W6
 generalize (((((W.setCell ⟨g,0,none⟩ (.string l)).setCell ⟨g,1,none⟩ (.string u)).setCell ⟨g,2,none⟩ (.string m)).setCell ⟨g,3,none⟩ (.string v)).setCell ⟨g,4,none⟩ (.string e)) = X at h4 ⊢
 exact h4
set_option maxHeartbeats 8000000 in
theorem spl_u (s T:ByteArray) (h16:(16:Int) <= (s.size:Int)) (_h16':16 <= s.size) (hT':s.extract 16 s.size = T) (n k:Int) (l u m v e:ByteArray) (c1:KMk KH 115 #[.string s] (.tuple #[.agg #[.int .i64 n,.string l,.int .i64 k,.string u,.string m,.string v,.string e],.int .i64 0]))
   (O:List Opt.P2) (N E:Int) (hE:(E == 0) = false) (c2:Opt.MkO 116 #[.string T,.int .i64 k] O N E):KMk KH 71 #[.string s] (noF E):=by
 intro w hT
 have hs:=lH (sp_new w hT)
 have HS:=lH hs.out.since
 have HT0:=lH hT
 unfold Z9 Z4 at hs HS
 clear hT
 go_enter Tryz.func71,Tryz.ntmps71
 go_wp2_with fail
 refine wp_scope_some 1 ?_
 go_wp2_with fail
 refine (c1.calls0 hs.out.tabs) ?_
 intro w1 h1
 replace hs:=lH (hs.out.step (Up.up h1))
 replace HS:=lH (HS.out.step (Up.up h1))
 clear h1
 have hlt:w.heap.size + 1 + 1 < w1.heap.size:=(Array.getElem?_eq_some_iff.1 hs.out.rf).1
 obtain ⟨W2,hW2⟩:∃ W2,W2 = w1.alloc (.cells #[.int .i64 n,.string l,.int .i64 k,.string u,.string m,.string v,.string e] 112):=⟨_,rfl⟩
 have hp2:Hid (HB w1 KT w1.heap.size #[.int .i64 n,.string l,.int .i64 k,.string u,.string m,.string v,.string e] W2):=lH (by rw [hW2]; exact hb_new w1 KT trivial _ _)
 replace hs:Hid (SP w _ W2):=lH (by rw [hW2]; exact hs.out.step ((Below.refl _ _).alloc (Nat.le_refl _) _))
 have f0:=row_cell? hs.out.rf 0 _ rfl
 have f1:=row_cell? hs.out.rf 1 _ rfl
 have f2:=row_cell? hs.out.rf 2 _ rfl
 have f3:=row_cell? hs.out.rf 3 _ rfl
 have f4:=row_cell? hs.out.rf 4 _ rfl
 have g0:=row_free hs.out.rf 0
 have g1:=row_free hs.out.rf 1
 have g2:=row_free hs.out.rf 2
 have g3:=row_free hs.out.rf 3
 have g4:=row_free hs.out.rf 4
 obtain ⟨_,q0,q1,q2,q3,q4,q5,q6⟩:=hb7 hp2
 have q9:=W6.far q2 (show w1.heap.size ≠ w.heap.size + 1 + 1 by omega) l u m v e
 have hs3:=lH (W6.sp hs.out HT0.out l u m v e)
 go_wp2_with fail
 rw [<- hW2]
 clear hW2 HS
 go_region
 clear f0 f1 f2 f3 f4 g0 g1 g2 g3 g4 q0 q1 q2 q3 q4 q5 q6 hs hp2
 obtain ⟨W3,hW3⟩:∃ W3,W3 = W6 W2 (w.heap.size + 1 + 1) l u m v e:=⟨_,rfl⟩
 rw [<- hW3] at hs3 q9
 unfold W6 at hW3
 rw [<- hW3]
 clear hW3
 have hs:=hs3
 have HS:=lH hs.out.since
 clear hs3
 go_wp2_with fail
 go_region_law (go_simp; go_at_call 116; refine c2.calls0 ?_; intro o w4 ho h4; replace hs:=lH (hs.out.step (by first | exact h4 | exact Since.step (Since.drew (Since.refl _)) h4)); replace HS:=lH hs.out.since; have HO:=lH ho; clear ho h4 q9)
 all_goals
   go_simp
   go_wp2_with fail
   go_step3
   refine ⟨_,rfl, ?_⟩
   go_wp2_with (first
     | (refine wpList_store_row rfl 53 _ _ rfl w.heap.size Z9 (by rfl) (by rfl) _ _ hs.out.r2 z9_info rfl z9_one ?_)
     | (refine wpList_store_row rfl 85 _ _ rfl (w.heap.size + 1) Z4 (by rfl) (by rfl) _ _ ((setRow_other _ _ _ _ (by omega)).trans hs.out.r3) z4_info rfl z4_one ?_))
   exact bodyPost_ret (v:=noF E) (results_cc_tmp Tryz.results71 _ _ _ _ _ _ _ _ _ _ _ _ _ rfl rfl rfl (two_rows hs.out).1 (two_rows hs.out).2.1 Tryz.underlying53 rfl z9_info Tryz.underlying85 rfl z4_info) rfl ⟨rfl,(two_rows hs.out).2.2⟩
set_option maxHeartbeats 8000000 in
theorem spl_f (s T:ByteArray) (h16:(16:Int) <= (s.size:Int)) (_h16':16 <= s.size) (hT':s.extract 16 s.size = T) (n k:Int) (l u m v e:ByteArray) (c1:KMk KH 115 #[.string s] (.tuple #[.agg #[.int .i64 n,.string l,.int .i64 k,.string u,.string m,.string v,.string e],.int .i64 0]))
   (O:List Opt.P2) (N:Int) (c2:Opt.MkO 116 #[.string T,.int .i64 k] O N 0) (L:List A2) (E:Int) (hE:(E == 0) = false) (c3:MkF 117 O L E):KMk KH 71 #[.string s] (noF E):=by
 intro w hT
 have hs:=lH (sp_new w hT)
 have HS:=lH hs.out.since
 have HT0:=lH hT
 unfold Z9 Z4 at hs HS
 clear hT
 go_enter Tryz.func71,Tryz.ntmps71
 go_wp2_with fail
 refine wp_scope_some 1 ?_
 go_wp2_with fail
 refine (c1.calls0 hs.out.tabs) ?_
 intro w1 h1
 replace hs:=lH (hs.out.step (Up.up h1))
 replace HS:=lH (HS.out.step (Up.up h1))
 clear h1
 have hlt:w.heap.size + 1 + 1 < w1.heap.size:=(Array.getElem?_eq_some_iff.1 hs.out.rf).1
 obtain ⟨W2,hW2⟩:∃ W2,W2 = w1.alloc (.cells #[.int .i64 n,.string l,.int .i64 k,.string u,.string m,.string v,.string e] 112):=⟨_,rfl⟩
 have hp2:Hid (HB w1 KT w1.heap.size #[.int .i64 n,.string l,.int .i64 k,.string u,.string m,.string v,.string e] W2):=lH (by rw [hW2]; exact hb_new w1 KT trivial _ _)
 replace hs:Hid (SP w _ W2):=lH (by rw [hW2]; exact hs.out.step ((Below.refl _ _).alloc (Nat.le_refl _) _))
 have f0:=row_cell? hs.out.rf 0 _ rfl
 have f1:=row_cell? hs.out.rf 1 _ rfl
 have f2:=row_cell? hs.out.rf 2 _ rfl
 have f3:=row_cell? hs.out.rf 3 _ rfl
 have f4:=row_cell? hs.out.rf 4 _ rfl
 have g0:=row_free hs.out.rf 0
 have g1:=row_free hs.out.rf 1
 have g2:=row_free hs.out.rf 2
 have g3:=row_free hs.out.rf 3
 have g4:=row_free hs.out.rf 4
 obtain ⟨_,q0,q1,q2,q3,q4,q5,q6⟩:=hb7 hp2
 have q9:=W6.far q2 (show w1.heap.size ≠ w.heap.size + 1 + 1 by omega) l u m v e
 have hs3:=lH (W6.sp hs.out HT0.out l u m v e)
 go_wp2_with fail
 rw [<- hW2]
 clear hW2 HS
 go_region
 clear f0 f1 f2 f3 f4 g0 g1 g2 g3 g4 q0 q1 q2 q3 q4 q5 q6 hs hp2
 obtain ⟨W3,hW3⟩:∃ W3,W3 = W6 W2 (w.heap.size + 1 + 1) l u m v e:=⟨_,rfl⟩
 rw [<- hW3] at hs3 q9
 unfold W6 at hW3
 rw [<- hW3]
 clear hW3
 have hs:=hs3
 have HS:=lH hs.out.since
 clear hs3
 go_wp2_with fail
 go_region_law (go_simp; go_at_call 116; refine c2.calls0 ?_; intro o w4 ho h4; replace hs:=lH (hs.out.step (by first | exact h4 | exact Since.step (Since.drew (Since.refl _)) h4)); replace HS:=lH hs.out.since; have HO:=lH ho; clear ho h4 q9)
 all_goals
   go_simp
   go_wp2_with fail
   refine c3.calls1 HO.out ?_
   intro a w5 ha h5
   have hfr:=lH (show ∀ b,a.blockOf = some b -> b ≠ w.heap.size + 1 + 1 from fresh_ne ha.2 (Array.getElem?_eq_some_iff.1 hs.out.rf).1)
   have hfq:=lH (show ∀ b,a.blockOf = some b -> b ≠ w.heap.size /\ b ≠ w.heap.size + 1 from fun b hb => ⟨fresh_ne ha.2 (Array.getElem?_eq_some_iff.1 hs.out.r2).1 b hb,fresh_ne ha.2 (Array.getElem?_eq_some_iff.1 hs.out.r3).1 b hb⟩)
   have hfz:=lH (show Fresh w.heap.size a from fun A' l' c' e' => Nat.le_trans (Below.size HS.out) (ha.2 A' l' c' e'))
   replace hs:=lH (hs.out.step h5)
   have HA:=lH ha.1
   obtain ⟨A,d,hav,_⟩:=ha.1.slice
   have f5:=row_cell? hs.out.rf 5 _ rfl
   have g5:=row_free hs.out.rf 5
   have hs6:=lH (hs.out.set HT0.out 5 a (C9 l u m v e a ⟨#[]⟩ ⟨#[]⟩ ⟨#[]⟩) (by simp [C9]))
   clear ha h5 HS HO
   subst hav
   go_wp2_with fail
   go_step3
   refine ⟨_,rfl, ?_⟩
   obtain ⟨W4,hW4⟩:∃ W4,W4 = w5.setCell ⟨w.heap.size + 1 + 1,5,none⟩ (.slice A L.length d):=⟨_,rfl⟩
   rw [<- hW4] at hs6 ⊢
   clear hs hW4
   have hs:=hs6
   go_wp2_with (first
     | (refine wpList_store_row rfl 53 _ _ rfl w.heap.size Z9 (by rfl) (by rfl) _ _ hs.out.r2 z9_info rfl z9_one ?_)
     | (refine wpList_store_row rfl 85 _ _ rfl (w.heap.size + 1) Z4 (by rfl) (by rfl) _ _ ((setRow_other _ _ _ _ (by omega)).trans hs.out.r3) z4_info rfl z4_one ?_))
   exact bodyPost_ret (v:=noF E) (results_cc_tmp Tryz.results71 _ _ _ _ _ _ _ _ _ _ _ _ _ rfl rfl rfl (two_rows hs.out).1 (two_rows hs.out).2.1 Tryz.underlying53 rfl z9_info Tryz.underlying85 rfl z4_info) rfl ⟨rfl,(two_rows hs.out).2.2⟩
set_option maxHeartbeats 16000000 in
theorem spl_s (s T:ByteArray) (h16:(16:Int) <= (s.size:Int)) (_h16':16 <= s.size) (hz:s.size <= 1000000) (hT':s.extract 16 s.size = T) (n k:Int) (l u m v e:ByteArray) (c1:KMk KH 115 #[.string s] (.tuple #[.agg #[.int .i64 n,.string l,.int .i64 k,.string u,.string m,.string v,.string e],.int .i64 0]))
   (O:List Opt.P2) (N D:Nat) (hN:((N:Int) + 16) = (D:Int)) (hD0:(0:Int) <= (D:Int)) (hD:(D:Int) <= (s.size:Int)) (c2:Opt.MkO 116 #[.string T,.int .i64 k] O (N:Int) 0) (L:List A2) (c3:MkF 117 O L 0)
   (P R C G:ByteArray) (hP:s.extract 0 D = P) (hR:s.extract D s.size = R) (E:Int) (hE:(E == 0) = false) (c4:Mak 118 #[.string R] (.tuple #[.string C,.string G,.int .i64 E])):KMk KH 71 #[.string s] (noF E):=by
 intro w hT
 have hs:=lH (sp_new w hT)
 have HS:=lH hs.out.since
 have HT0:=lH hT
 unfold Z9 Z4 at hs HS
 clear hT
 go_enter Tryz.func71,Tryz.ntmps71
 go_wp2_with fail
 refine wp_scope_some 1 ?_
 go_wp2_with fail
 refine (c1.calls0 hs.out.tabs) ?_
 intro w1 h1
 replace hs:=lH (hs.out.step (Up.up h1))
 replace HS:=lH (HS.out.step (Up.up h1))
 clear h1
 have hlt:w.heap.size + 1 + 1 < w1.heap.size:=(Array.getElem?_eq_some_iff.1 hs.out.rf).1
 obtain ⟨W2,hW2⟩:∃ W2,W2 = w1.alloc (.cells #[.int .i64 n,.string l,.int .i64 k,.string u,.string m,.string v,.string e] 112):=⟨_,rfl⟩
 have hp2:Hid (HB w1 KT w1.heap.size #[.int .i64 n,.string l,.int .i64 k,.string u,.string m,.string v,.string e] W2):=lH (by rw [hW2]; exact hb_new w1 KT trivial _ _)
 replace hs:Hid (SP w _ W2):=lH (by rw [hW2]; exact hs.out.step ((Below.refl _ _).alloc (Nat.le_refl _) _))
 have f0:=row_cell? hs.out.rf 0 _ rfl
 have f1:=row_cell? hs.out.rf 1 _ rfl
 have f2:=row_cell? hs.out.rf 2 _ rfl
 have f3:=row_cell? hs.out.rf 3 _ rfl
 have f4:=row_cell? hs.out.rf 4 _ rfl
 have g0:=row_free hs.out.rf 0
 have g1:=row_free hs.out.rf 1
 have g2:=row_free hs.out.rf 2
 have g3:=row_free hs.out.rf 3
 have g4:=row_free hs.out.rf 4
 obtain ⟨_,q0,q1,q2,q3,q4,q5,q6⟩:=hb7 hp2
 have q9:=W6.far q2 (show w1.heap.size ≠ w.heap.size + 1 + 1 by omega) l u m v e
 have hs3:=lH (W6.sp hs.out HT0.out l u m v e)
 go_wp2_with fail
 rw [<- hW2]
 clear hW2 HS
 go_region
 clear f0 f1 f2 f3 f4 g0 g1 g2 g3 g4 q0 q1 q2 q3 q4 q5 q6 hs hp2
 obtain ⟨W3,hW3⟩:∃ W3,W3 = W6 W2 (w.heap.size + 1 + 1) l u m v e:=⟨_,rfl⟩
 rw [<- hW3] at hs3 q9
 unfold W6 at hW3
 rw [<- hW3]
 clear hW3
 have hs:=hs3
 have HS:=lH hs.out.since
 clear hs3
 go_wp2_with fail
 go_region_law (go_simp; go_at_call 116; refine c2.calls0 ?_; intro o w4 ho h4; replace hs:=lH (hs.out.step (by first | exact h4 | exact Since.step (Since.drew (Since.refl _)) h4)); replace HS:=lH hs.out.since; have HO:=lH ho; clear ho h4 q9)
 all_goals
   go_simp
   go_wp2_with fail
   refine c3.calls1 HO.out ?_
   intro a w5 ha h5
   have hfr:=lH (show ∀ b,a.blockOf = some b -> b ≠ w.heap.size + 1 + 1 from fresh_ne ha.2 (Array.getElem?_eq_some_iff.1 hs.out.rf).1)
   have hfq:=lH (show ∀ b,a.blockOf = some b -> b ≠ w.heap.size /\ b ≠ w.heap.size + 1 from fun b hb => ⟨fresh_ne ha.2 (Array.getElem?_eq_some_iff.1 hs.out.r2).1 b hb,fresh_ne ha.2 (Array.getElem?_eq_some_iff.1 hs.out.r3).1 b hb⟩)
   have hfz:=lH (show Fresh w.heap.size a from fun A' l' c' e' => Nat.le_trans (Below.size HS.out) (ha.2 A' l' c' e'))
   replace hs:=lH (hs.out.step h5)
   have HA:=lH ha.1
   obtain ⟨A,d,hav,_⟩:=ha.1.slice
   have f5:=row_cell? hs.out.rf 5 _ rfl
   have g5:=row_free hs.out.rf 5
   have hs6:=lH (hs.out.set HT0.out 5 a (C9 l u m v e a ⟨#[]⟩ ⟨#[]⟩ ⟨#[]⟩) (by simp [C9]))
   clear ha h5 HS HO
   subst hav
   have f6:=row_cell? hs.out.rf 6 _ rfl
   have g6:=row_free hs.out.rf 6
   have hs7:=lH (hs6.out.set HT0.out 6 (.string P) (C9 l u m v e (.slice A L.length d) P ⟨#[]⟩ ⟨#[]⟩) (by simp [C9]))
   have HA7:=lH (far_atts (far_atts HA.out (w.heap.size + 1 + 1) hfr.out 5 (.slice A L.length d)) (w.heap.size + 1 + 1) hfr.out 6 (.string P))
   clear HA hs hs6
   go_wp2_with fail
   refine c4.calls0 ?_
   intro w6 h6
   have hs:=lH (hs7.out.step h6)
   have HA:=lH (HA7.out.since h6)
   clear hs7 HA7 f5 g5 f6 g6 h6
   have f7:=row_cell? hs.out.rf 7 _ rfl
   have g7:=row_free hs.out.rf 7
   have f8:=row_cell? hs.out.rf 8 _ rfl
   have g8:=row_free hs.out.rf 8
   have hs8:=lH ((hs.out.set HT0.out 7 (.string C) (C9 l u m v e (.slice A L.length d) P C ⟨#[]⟩) (by simp [C9])).set HT0.out 8 (.string G) (C9 l u m v e (.slice A L.length d) P C G) (by simp [C9]))
   have HA8:=lH (far_atts (far_atts HA.out (w.heap.size + 1 + 1) hfr.out 7 (.string C)) (w.heap.size + 1 + 1) hfr.out 8 (.string G))
   go_wp2_with fail
   go_step3
   refine ⟨_,rfl, ?_⟩
   clear hs HA HA8
   obtain ⟨W4,hW4⟩:∃ W4,W4 = (w6.setCell ⟨w.heap.size + 1 + 1,7,none⟩ (.string C)).setCell ⟨w.heap.size + 1 + 1,8,none⟩ (.string G):=⟨_,rfl⟩
   rw [<- hW4] at hs8 ⊢
   clear hW4
   have hs:=hs8
   go_wp2_with (first
     | (refine wpList_store_row rfl 53 _ _ rfl w.heap.size Z9 (by rfl) (by rfl) _ _ hs.out.r2 z9_info rfl z9_one ?_)
     | (refine wpList_store_row rfl 85 _ _ rfl (w.heap.size + 1) Z4 (by rfl) (by rfl) _ _ ((setRow_other _ _ _ _ (by omega)).trans hs.out.r3) z4_info rfl z4_one ?_))
   exact bodyPost_ret (v:=noF E) (results_cc_tmp Tryz.results71 _ _ _ _ _ _ _ _ _ _ _ _ _ rfl rfl rfl (two_rows hs.out).1 (two_rows hs.out).2.1 Tryz.underlying53 rfl z9_info Tryz.underlying85 rfl z4_info) rfl ⟨rfl,(two_rows hs.out).2.2⟩
def setA (C:Array Value):Nat -> List Value -> Array Value
 | _,[] => C
 | o,v :: vs => setA (C.setIfInBounds o v) (o + 1) vs
theorem row_setCells {g:Nat} {T:TypeId}:∀ (vs:List Value) (o:Nat) (W:World) (C:Array Value),W.heap[g]? = some (.cells C T (0,0)) -> (W.setCells g o vs).heap[g]? = some (.cells (setA C o vs) T (0,0))
 | [],_,_,_,h => h
 | v :: vs,o,W,C,h => row_setCells vs (o + 1) (W.setCell ⟨g,o,none⟩ v) (C.setIfInBounds o v) (heap_setCell_row h o v)
theorem other_setCells {g k:Nat} (hne:k ≠ g):∀ (vs:List Value) (o:Nat) (W:World),(W.setCells g o vs).heap[k]? = W.heap[k]?
 | [],_,_ => rfl
 | v :: vs,o,W => (other_setCells hne vs (o + 1) (W.setCell ⟨g,o,none⟩ v)).trans (Go.Deep.blk_setCell_other _ _ _ _ hne)
theorem far_setCells {v:Value} {L:List A2} {g:Nat} (hne:∀ b,v.blockOf = some b -> b ≠ g):∀ (vs:List Value) (o:Nat) (W:World),AttsS W v L -> AttsS (W.setCells g o vs) v L
 | [],_,_,h => h
 | x :: vs,o,W,h => far_setCells hne vs (o + 1) (W.setCell ⟨g,o,none⟩ x) (far_atts h g hne o x)
def W13 (W:World) (g:Nat) (l u m v e:ByteArray) (x:Value) (P C G:ByteArray) (q0 q1 q2 q3:Value):World :=
 (((((((((((((W.setCell ⟨g,0,none⟩ (.string l)).setCell ⟨g,1,none⟩ (.string u)).setCell ⟨g,2,none⟩ (.string m)).setCell ⟨g,3,none⟩ (.string v)).setCell ⟨g,4,none⟩ (.string e)).setCell ⟨g,5,none⟩ x).setCell ⟨g,6,none⟩ (.string P)).setCell ⟨g,7,none⟩ (.string C)).setCell ⟨g,8,none⟩ (.string G)).setCell ⟨g + 1,0,none⟩ q0).setCell ⟨g + 1,1,none⟩ q1).setCell ⟨g + 1,2,none⟩ q2).setCell ⟨g + 1,3,none⟩ q3).drew
theorem W13.facts {w W:World} {B:Array Value} (h:SP w B W) (l u m v e:ByteArray) (x:Value) (P C G:ByteArray) (q0 q1 q2 q3:Value) {L:List A2} (hx:AttsS W x L) (hne:∀ b,x.blockOf = some b -> b ≠ w.heap.size /\ b ≠ w.heap.size + 1) :
   (W13 W w.heap.size l u m v e x P C G q0 q1 q2 q3).heap[w.heap.size]? = some (.cells (C9 l u m v e x P C G) 53 (0,0)) /\ (W13 W w.heap.size l u m v e x P C G q0 q1 q2 q3).heap[w.heap.size + 1]? = some (.cells #[q0,q1,q2,q3] 85 (0,0)) /\ AttsS (W13 W w.heap.size l u m v e x P C G q0 q1 q2 q3) x L /\ Since w (W13 W w.heap.size l u m v e x P C G q0 q1 q2 q3):=by
 have e1:W13 W w.heap.size l u m v e x P C G q0 q1 q2 q3 = ((W.setCells w.heap.size 0 [.string l,.string u,.string m,.string v,.string e,x,.string P,.string C,.string G]).setCells (w.heap.size + 1) 0 [q0,q1,q2,q3]).drew:=rfl
 rw [e1]
 have a1:=row_setCells [.string l,.string u,.string m,.string v,.string e,x,.string P,.string C,.string G] 0 W Z9 h.r2
 have a2:setA Z9 0 [.string l,.string u,.string m,.string v,.string e,x,.string P,.string C,.string G] = C9 l u m v e x P C G:=by simp [setA,Z9,C9]
 rw [a2] at a1
 obtain ⟨X,hX⟩:∃ X,W.setCells w.heap.size 0 [.string l,.string u,.string m,.string v,.string e,x,.string P,.string C,.string G] = X:=⟨_,rfl⟩
 have a3:X.heap[w.heap.size + 1]? = some (.cells Z4 85 (0,0)):=by rw [<- hX]; exact (other_setCells (by omega) _ _ _).trans h.r3
 have a4:AttsS X x L:=by rw [<- hX]; exact far_setCells (fun b hb => (hne b hb).1) _ _ _ hx
 have a5:Since w X:=by rw [<- hX]; exact below_setCells (Nat.le_refl _) _ _ _ h.since
 rw [hX] at a1 ⊢
 clear hX e1 a2
 have b1:=row_setCells [q0,q1,q2,q3] 0 X Z4 a3
 have b2:setA Z4 0 [q0,q1,q2,q3] = #[q0,q1,q2,q3]:=by simp [setA,Z4]
 rw [b2] at b1
 have b3:(X.setCells (w.heap.size + 1) 0 [q0,q1,q2,q3]).heap[w.heap.size]? = some (.cells (C9 l u m v e x P C G) 53 (0,0)):=(other_setCells (by omega) _ _ _).trans a1
 have b4:AttsS (X.setCells (w.heap.size + 1) 0 [q0,q1,q2,q3]) x L:=far_setCells (fun b hb => (hne b hb).2) _ _ _ a4
 have b5:Since w (X.setCells (w.heap.size + 1) 0 [q0,q1,q2,q3]):=below_setCells (by omega) _ _ _ a5
 generalize X.setCells (w.heap.size + 1) 0 [q0,q1,q2,q3] = Y at b1 b3 b4 b5 ⊢
 exact ⟨b3,b1,b4.since (Below.drew (Below.refl _ _)),b5.drew⟩
def PostS (w:World) (l u m v e:ByteArray) (L:List A2) (P C G:ByteArray) (D M Z:Nat) (x:Ending) (w':World):Prop :=
 ∃ a,x = .returned (.tuple #[.agg (C9 l u m v e a P C G),.agg (CX D M Z),.int .i64 0]) /\ AttsS w' a L /\ Fresh w.heap.size a /\ Below w.heap.size w w'
theorem far_rows {W:World} {v:Value} {L:List A2} (h:AttsS W v L) (g:Nat) (hne:∀ b,v.blockOf = some b -> b ≠ g) (C:Array Value):AttsS (W.setRow g C) v L:=by
 obtain ⟨h1,A,c,rfl,h2,h3,h4⟩:=h
 refine ⟨h1,A,c,rfl,h2,h3, ?_⟩
 rcases h4 with h4 | ⟨b,o,rfl,hlt,hc⟩
 · exact Or.inl h4
 · have hb:=hne b rfl
   have ho:=setRow_other W g b C hb
   refine Or.inr ⟨b,o,rfl, ?_,fun j u hu => ?_⟩
   · rcases Nat.lt_or_ge b (W.setRow g C).heap.size with h | h
     · exact h
     · rw [Array.getElem?_eq_none h,Array.getElem?_eq_getElem hlt] at ho; cases ho
   · rw [World.cell?_of_block (w:=W) (w':=W.setRow g C) (show (W.setRow g C).heap[b]? = W.heap[b]? from ho)]
     exact hc j u hu
set_option maxHeartbeats 32000000 in
theorem spl_ok (s T:ByteArray) (h16:(16:Int) <= (s.size:Int)) (_h16':16 <= s.size) (hz:s.size <= 60000) (hT':s.extract 16 s.size = T) (n k:Int) (l u m v e:ByteArray) (c1:KMk KH 115 #[.string s] (.tuple #[.agg #[.int .i64 n,.string l,.int .i64 k,.string u,.string m,.string v,.string e],.int .i64 0]))
   (O:List Opt.P2) (N D M:Nat) (hN:((N:Int) + 16) = (D:Int)) (hD0:(0:Int) <= (D:Int)) (hD:(D:Int) <= (s.size:Int)) (c2:Opt.MkO 116 #[.string T,.int .i64 k] O (N:Int) 0) (L:List A2) (c3:MkF 117 O L 0)
   (P R C G:ByteArray) (hP:s.extract 0 D = P) (hR:s.extract D s.size = R) (c4:Mak 118 #[.string R] (.tuple #[.string C,.string G,.int .i64 0])) (hM:(s.size:Int) - 32 = (M:Int)) (hDM:D <= M):∀ w,KH w -> Calls Tryz.prog 71 #[.string s] w (PostS w l u m v e L P C G D M s.size):=by
 intro w hT
 have s1:Ret 119 #[.int .i64 0,.int .i64 16] (.complex .f64 (Flt.fl 0) (Flt.fl 16)):=Span.of_yes 0 16 ⟨by omega,by omega⟩
 have s2:Ret 119 #[.int .i64 16,.int .i64 (D:Int)] (.complex .f64 (Flt.fl 16) (Flt.fl (D:Int))):=Span.of_yes 16 D ⟨by omega,by omega⟩
 have s3:Ret 119 #[.int .i64 (D:Int),.int .i64 (M:Int)] (.complex .f64 (Flt.fl (D:Int)) (Flt.fl (M:Int))):=Span.of_yes D M ⟨by omega,by omega⟩
 have s4:Ret 119 #[.int .i64 (M:Int),.int .i64 (s.size:Int)] (.complex .f64 (Flt.fl (M:Int)) (Flt.fl (s.size:Int))):=Span.of_yes M s.size ⟨by omega,by omega⟩
 have hs:=lH (sp_new w hT)
 have HS:=lH hs.out.since
 have HT0:=lH hT
 unfold Z9 Z4 at hs HS
 clear hT
 go_enter Tryz.func71,Tryz.ntmps71
 go_wp2_with fail
 refine wp_scope_some 1 ?_
 go_wp2_with fail
 refine (c1.calls0 hs.out.tabs) ?_
 intro w1 h1
 replace hs:=lH (hs.out.step (Up.up h1))
 replace HS:=lH (HS.out.step (Up.up h1))
 clear h1
 have hlt:w.heap.size + 1 + 1 < w1.heap.size:=(Array.getElem?_eq_some_iff.1 hs.out.rf).1
 obtain ⟨W2,hW2⟩:∃ W2,W2 = w1.alloc (.cells #[.int .i64 n,.string l,.int .i64 k,.string u,.string m,.string v,.string e] 112):=⟨_,rfl⟩
 have hp2:Hid (HB w1 KT w1.heap.size #[.int .i64 n,.string l,.int .i64 k,.string u,.string m,.string v,.string e] W2):=lH (by rw [hW2]; exact hb_new w1 KT trivial _ _)
 replace hs:Hid (SP w _ W2):=lH (by rw [hW2]; exact hs.out.step ((Below.refl _ _).alloc (Nat.le_refl _) _))
 have f0:=row_cell? hs.out.rf 0 _ rfl
 have f1:=row_cell? hs.out.rf 1 _ rfl
 have f2:=row_cell? hs.out.rf 2 _ rfl
 have f3:=row_cell? hs.out.rf 3 _ rfl
 have f4:=row_cell? hs.out.rf 4 _ rfl
 have g0:=row_free hs.out.rf 0
 have g1:=row_free hs.out.rf 1
 have g2:=row_free hs.out.rf 2
 have g3:=row_free hs.out.rf 3
 have g4:=row_free hs.out.rf 4
 obtain ⟨_,q0,q1,q2,q3,q4,q5,q6⟩:=hb7 hp2
 have q9:=W6.far q2 (show w1.heap.size ≠ w.heap.size + 1 + 1 by omega) l u m v e
 have hs3:=lH (W6.sp hs.out HT0.out l u m v e)
 go_wp2_with fail
 rw [<- hW2]
 clear hW2 HS
 go_region
 clear f0 f1 f2 f3 f4 g0 g1 g2 g3 g4 q0 q1 q2 q3 q4 q5 q6 hs hp2
 obtain ⟨W3,hW3⟩:∃ W3,W3 = W6 W2 (w.heap.size + 1 + 1) l u m v e:=⟨_,rfl⟩
 rw [<- hW3] at hs3 q9
 unfold W6 at hW3
 rw [<- hW3]
 clear hW3
 have hs:=hs3
 have HS:=lH hs.out.since
 clear hs3
 go_wp2_with fail
 go_region_law (go_simp; go_at_call 116; refine c2.calls0 ?_; intro o w4 ho h4; replace hs:=lH (hs.out.step (by first | exact h4 | exact Since.step (Since.drew (Since.refl _)) h4)); replace HS:=lH hs.out.since; have HO:=lH ho; clear ho h4 q9)
 all_goals
   go_simp
   go_wp2_with fail
   refine c3.calls1 HO.out ?_
   intro a w5 ha h5
   have hfr:=lH (show ∀ b,a.blockOf = some b -> b ≠ w.heap.size + 1 + 1 from fresh_ne ha.2 (Array.getElem?_eq_some_iff.1 hs.out.rf).1)
   have hfq:=lH (show ∀ b,a.blockOf = some b -> b ≠ w.heap.size /\ b ≠ w.heap.size + 1 from fun b hb => ⟨fresh_ne ha.2 (Array.getElem?_eq_some_iff.1 hs.out.r2).1 b hb,fresh_ne ha.2 (Array.getElem?_eq_some_iff.1 hs.out.r3).1 b hb⟩)
   have hfz:=lH (show Fresh w.heap.size a from fun A' l' c' e' => Nat.le_trans (Below.size HS.out) (ha.2 A' l' c' e'))
   replace hs:=lH (hs.out.step h5)
   have HA:=lH ha.1
   obtain ⟨A,d,hav,_⟩:=ha.1.slice
   have f5:=row_cell? hs.out.rf 5 _ rfl
   have g5:=row_free hs.out.rf 5
   have hs6:=lH (hs.out.set HT0.out 5 a (C9 l u m v e a ⟨#[]⟩ ⟨#[]⟩ ⟨#[]⟩) (by simp [C9]))
   clear ha h5 HS HO
   subst hav
   have f6:=row_cell? hs.out.rf 6 _ rfl
   have g6:=row_free hs.out.rf 6
   have hs7:=lH (hs6.out.set HT0.out 6 (.string P) (C9 l u m v e (.slice A L.length d) P ⟨#[]⟩ ⟨#[]⟩) (by simp [C9]))
   have HA7:=lH (far_atts (far_atts HA.out (w.heap.size + 1 + 1) hfr.out 5 (.slice A L.length d)) (w.heap.size + 1 + 1) hfr.out 6 (.string P))
   clear HA hs hs6
   go_wp2_with fail
   refine c4.calls0 ?_
   intro w6 h6
   have hs:=lH (hs7.out.step h6)
   have HA:=lH (HA7.out.since h6)
   clear hs7 HA7 f5 g5 f6 g6 h6
   have f7:=row_cell? hs.out.rf 7 _ rfl
   have g7:=row_free hs.out.rf 7
   have f8:=row_cell? hs.out.rf 8 _ rfl
   have g8:=row_free hs.out.rf 8
   have hs8:=lH ((hs.out.set HT0.out 7 (.string C) (C9 l u m v e (.slice A L.length d) P C ⟨#[]⟩) (by simp [C9])).set HT0.out 8 (.string G) (C9 l u m v e (.slice A L.length d) P C G) (by simp [C9]))
   have HA8:=lH (far_atts (far_atts HA.out (w.heap.size + 1 + 1) hfr.out 7 (.string C)) (w.heap.size + 1 + 1) hfr.out 8 (.string G))
   go_wp2_with fail
   clear hs HA f7 g7 f8 g8
   obtain ⟨W4,hW4⟩:∃ W4,W4 = (w6.setCell ⟨w.heap.size + 1 + 1,7,none⟩ (.string C)).setCell ⟨w.heap.size + 1 + 1,8,none⟩ (.string G):=⟨_,rfl⟩
   rw [<- hW4] at hs8 HA8 ⊢
   clear hW4
   have hs:=hs8
   have k0:W4.cell? ⟨w.heap.size + 1 + 1,0,none⟩ = some (.string l):=row_cell? hs.out.rf 0 _ rfl
   have k1:W4.cell? ⟨w.heap.size + 1 + 1,1,none⟩ = some (.string u):=row_cell? hs.out.rf 1 _ rfl
   have k2:W4.cell? ⟨w.heap.size + 1 + 1,2,none⟩ = some (.string m):=row_cell? hs.out.rf 2 _ rfl
   have k3:W4.cell? ⟨w.heap.size + 1 + 1,3,none⟩ = some (.string v):=row_cell? hs.out.rf 3 _ rfl
   have k4:W4.cell? ⟨w.heap.size + 1 + 1,4,none⟩ = some (.string e):=row_cell? hs.out.rf 4 _ rfl
   have k5:W4.cell? ⟨w.heap.size + 1 + 1,5,none⟩ = some (.slice A L.length d):=row_cell? hs.out.rf 5 _ rfl
   have k6:W4.cell? ⟨w.heap.size + 1 + 1,6,none⟩ = some (.string P):=row_cell? hs.out.rf 6 _ rfl
   have k7:W4.cell? ⟨w.heap.size + 1 + 1,7,none⟩ = some (.string C):=row_cell? hs.out.rf 7 _ rfl
   have k8:W4.cell? ⟨w.heap.size + 1 + 1,8,none⟩ = some (.string G):=row_cell? hs.out.rf 8 _ rfl
   have a0:=row_cell? hs.out.r2 0 _ rfl
   have b0:=row_free hs.out.r2 0
   have a1:=row_cell? hs.out.r2 1 _ rfl
   have b1:=row_free hs.out.r2 1
   have a2:=row_cell? hs.out.r2 2 _ rfl
   have b2:=row_free hs.out.r2 2
   have a3:=row_cell? hs.out.r2 3 _ rfl
   have b3:=row_free hs.out.r2 3
   have a4:=row_cell? hs.out.r2 4 _ rfl
   have b4:=row_free hs.out.r2 4
   have a5:=row_cell? hs.out.r2 5 _ rfl
   have b5:=row_free hs.out.r2 5
   have a6:=row_cell? hs.out.r2 6 _ rfl
   have b6:=row_free hs.out.r2 6
   have a7:=row_cell? hs.out.r2 7 _ rfl
   have b7:=row_free hs.out.r2 7
   have a8:=row_cell? hs.out.r2 8 _ rfl
   have b8:=row_free hs.out.r2 8
   have x0:=row_cell? hs.out.r3 0 _ rfl
   have y0:=row_free hs.out.r3 0
   have x1:=row_cell? hs.out.r3 1 _ rfl
   have y1:=row_free hs.out.r3 1
   have x2:=row_cell? hs.out.r3 2 _ rfl
   have y2:=row_free hs.out.r3 2
   have x3:=row_cell? hs.out.r3 3 _ rfl
   have y3:=row_free hs.out.r3 3
   have hs0:=hs
   clear hs hs8
   go_region_law (first
     | (go_simp; go_at_call 119; with_reducible refine s1.calls ?_)
     | (go_simp; go_at_call 119; with_reducible refine s2.calls ?_)
     | (go_simp; go_at_call 119; with_reducible refine s3.calls ?_)
     | (go_simp; go_at_call 119; with_reducible refine s4.calls ?_))
   all_goals
     go_simp
     go_wp2_with fail
     have hfin:=W13.facts hs0.out l u m v e (.slice A L.length d) P C G (.complex .f64 (Flt.fl 0) (Flt.fl 16)) (.complex .f64 (Flt.fl 16) (Flt.fl (D:Int))) (.complex .f64 (Flt.fl (D:Int)) (Flt.fl (M:Int))) (.complex .f64 (Flt.fl (M:Int)) (Flt.fl (s.size:Int))) HA8.out hfq.out
     obtain ⟨y1,y2,y3,y4⟩:=hfin
     simp only [Exit.jumps]
     exact bodyPost_ret (v:=.tuple #[.agg (C9 l u m v e (.slice A L.length d) P C G),.agg (CX D M s.size),.int .i64 0]) (results_cc_tmp Tryz.results71 _ _ _ _ _ _ _ _ _ _ _ _ _ rfl rfl rfl y1 y2 Tryz.underlying53 rfl (c9_info _ _ _ _ _ _ _ _ _) Tryz.underlying85 rfl (cx_info _ _ _)) rfl ⟨_,rfl,y3,hfz.out,y4⟩
end Frame
end Go.Proofs.YtddlaafpianjbaaGreatDoor
