/- The law ScriptBack: what is written is read as it was, and what is read is written so again; no conditions. -/
import Derived.Test.YtcdjfmlanicjlaaDoorRows
import Derived.WalkKit
import Derived.ProofKit
import Derived.OpenShut
import Derived.Lib.Hide
import Derived.Test.YtcdjfmlanicjlaaDoorSk54
import Derived.Test.YtcdjfmlanicjlaaDoorCards
import Derived.Test.YtcdjfmlanicjlaaDoorTie
import Derived.LaidMore
import Derived.SevenTiedAt
import Derived.Stop.Joined
import Derived.Lay
set_option maxRecDepth 100000
namespace Go.Proofs.YtcdjfmlanicjlaaDoor.scriptBack
open Go.ChangeShapes Go.WideShapes Go.ChangeAt Go.RowKit
open Scr Kind
set_option maxHeartbeats 4000000 in
theorem big_1 (w:World) (hT:Tab2 w) (v n o t b y:ByteArray) (f:Int) (c1:Mak 4 #[.agg #[.string v,.string n,.string o,.int .i64 f,.string t,.string b]] (.bool false))  :
   Calls Tryd.prog 3 #[.agg #[.string v,.string n,.string o,.int .i64 f,.string t,.string b],.string y] w fun x w' => x = .returned (.bool true) /\ Since w w':=by
 have HT:=lH hT
 have HS:=lH ((Since.refl w).alloc (.cells #[.string v,.string n,.string o,.int .i64 f,.string t,.string b] 23))
 have HB:Hid (BX w.heap.size #[.string v,.string n,.string o,.int .i64 f,.string t,.string b] 23 (w.alloc (.cells #[.string v,.string n,.string o,.int .i64 f,.string t,.string b] 23))):=lH (heap_alloc_new w _)
 have c9:=Scr.awake
 clear hT
 go_enter Tryd.func3,Tryd.ntmps3
 go_wp2_with fail
 refine c1.calls0 ?_
 intro w1 h1
 replace HS:=lH (HS.out.step h1)
 replace HB:=bx_step h1 HB
 clear h1
 go_wp2_with fail
 refine c9.calls0 (Kp.keep HT.out HS.out) ?_
 intro w9 h9
 replace HS:=lH (HS.out.step h9)
 clear h9
 go_wp2_with fail
 go_ret
 exact ⟨rfl,HS.out⟩
set_option maxHeartbeats 4000000 in
theorem big_2 (w:World) (hT:Tab2 w) (v n o t b y:ByteArray) (f:Int) (c1:Mak 4 #[.agg #[.string v,.string n,.string o,.int .i64 f,.string t,.string b]] (.bool true)) (t1:decide ((4000:Int) < (y.size:Int)) = true) :
   Calls Tryd.prog 3 #[.agg #[.string v,.string n,.string o,.int .i64 f,.string t,.string b],.string y] w fun x w' => x = .returned (.bool true) /\ Since w w':=by
 have HT:=lH hT
 have HS:=lH ((Since.refl w).alloc (.cells #[.string v,.string n,.string o,.int .i64 f,.string t,.string b] 23))
 have HB:Hid (BX w.heap.size #[.string v,.string n,.string o,.int .i64 f,.string t,.string b] 23 (w.alloc (.cells #[.string v,.string n,.string o,.int .i64 f,.string t,.string b] 23))):=lH (heap_alloc_new w _)
 have c9:=Scr.awake
 clear hT
 go_enter Tryd.func3,Tryd.ntmps3
 go_wp2_with fail
 refine c1.calls0 ?_
 intro w1 h1
 replace HS:=lH (HS.out.step h1)
 replace HB:=bx_step h1 HB
 clear h1
 go_wp2_with fail
 refine c9.calls0 (Kp.keep HT.out HS.out) ?_
 intro w9 h9
 replace HS:=lH (HS.out.step h9)
 clear h9
 go_wp2_with fail
 go_ret
 exact ⟨rfl,HS.out⟩
set_option maxHeartbeats 8000000 in
theorem core_11 (w:World) (hT:Tab2 w) (v n o t b y Y:ByteArray) (f:Int) (c1:Mak 4 #[.agg #[.string v,.string n,.string o,.int .i64 f,.string t,.string b]] (.bool true)) (t1:decide ((4000:Int) < (y.size:Int)) = false)
   (c2:KMk Tab2 6 #[.agg #[.string v,.string n,.string o,.int .i64 f,.string t,.string b]] (.string Y)) (q0:(Y.toList == ([]:List UInt8)) = false) (c3:KMk Tab2 7 #[.string Y] (.tuple #[.agg #[.string v,.string n,.string o,.int .i64 f,.string t,.string b],.int .i64 0])) (xv xn xo xt xb:ByteArray) (xf:Int) (c5:KMk Tab2 6 #[.agg #[.string xv,.string xn,.string xo,.int .i64 xf,.string xt,.string xb]] (.string y))
   (c4:KMk Tab2 7 #[.string y] (.tuple #[.agg #[.string xv,.string xn,.string xo,.int .i64 xf,.string xt,.string xb],.int .i64 0])) :
   Calls Tryd.prog 3 #[.agg #[.string v,.string n,.string o,.int .i64 f,.string t,.string b],.string y] w fun x w' => x = .returned (.bool true) /\ Since w w':=by
 have qy:(y.toList == y.toList) = true:=beq_self_eq_true _
 have HT:=lH hT
 have HS:=lH ((Since.refl w).alloc (.cells #[.string v,.string n,.string o,.int .i64 f,.string t,.string b] 23))
 have HB:Hid (BX w.heap.size #[.string v,.string n,.string o,.int .i64 f,.string t,.string b] 23 (w.alloc (.cells #[.string v,.string n,.string o,.int .i64 f,.string t,.string b] 23))):=lH (heap_alloc_new w _)
 have c9:=Scr.awake
 clear hT
 go_enter Tryd.func3,Tryd.ntmps3
 go_wp2_with fail
 refine c1.calls0 ?_
 intro w1 h1
 replace HS:=lH (HS.out.step h1)
 replace HB:=bx_step h1 HB
 clear h1
 have m0:=row_cell HB.out 0 _ rfl
 have m1:=row_cell HB.out 1 _ rfl
 have m2:=row_cell HB.out 2 _ rfl
 have m3:=row_cell HB.out 3 _ rfl
 have m4:=row_cell HB.out 4 _ rfl
 have m5:=row_cell HB.out 5 _ rfl
 go_wp2_with fail
 clear m0 m1 m2 m3 m4 m5
 refine c2.calls0 (Kp.keep HT.out HS.out) ?_
 intro w2 h2
 replace HS:=lH (HS.out.step h2)
 replace HB:=bx_step h2 HB
 clear h2
 go_wp2_with fail
 refine c3.calls0 (Kp.keep HT.out HS.out) ?_
 intro w3 h3
 have hal:Since w3 (w3.alloc (.cells #[.string v,.string n,.string o,.int .i64 f,.string t,.string b] 27)):=(Since.refl w3).alloc _
 replace HS:=lH ((HS.out.step h3).step hal)
 replace HB:=bx_step hal (bx_step h3 HB)
 have m0:=row_cell HB.out 0 _ rfl
 have m1:=row_cell HB.out 1 _ rfl
 have m2:=row_cell HB.out 2 _ rfl
 have m3:=row_cell HB.out 3 _ rfl
 have m4:=row_cell HB.out 4 _ rfl
 have m5:=row_cell HB.out 5 _ rfl
 have e0:(v.toList == v.toList) = true:=beq_self_eq_true _
 have e1:(n.toList == n.toList) = true:=beq_self_eq_true _
 have e2:(o.toList == o.toList) = true:=beq_self_eq_true _
 have e3:(f == f) = true:=beq_self_eq_true _
 have e4:(t.toList == t.toList) = true:=beq_self_eq_true _
 have e5:(b.toList == b.toList) = true:=beq_self_eq_true _
 clear h3 hal
 go_wp2_with fail
 clear m0 m1 m2 m3 m4 m5
 refine c4.calls0 (Kp.keep HT.out HS.out) ?_
 intro w4 h4
 replace HS:=lH (HS.out.step h4)
 clear h4
 have hal:Since w4 (w4.alloc (.cells #[.string xv,.string xn,.string xo,.int .i64 xf,.string xt,.string xb] 27)):=(Since.refl w4).alloc _
 replace HS:=lH (HS.out.step hal)
 clear hal
 go_wp2_with fail
 refine c5.calls0 (Kp.keep HT.out HS.out) ?_
 intro w5 h5
 replace HS:=lH (HS.out.step h5)
 clear h5
 go_wp2_with fail
 refine c9.calls0 (Kp.keep HT.out HS.out) ?_
 intro w9 h9
 replace HS:=lH (HS.out.step h9)
 clear h9
 go_wp2_with fail
 go_ret
 exact ⟨rfl,HS.out⟩
set_option maxHeartbeats 8000000 in
theorem core_10 (w:World) (hT:Tab2 w) (v n o t b y Y:ByteArray) (f:Int) (c1:Mak 4 #[.agg #[.string v,.string n,.string o,.int .i64 f,.string t,.string b]] (.bool true)) (t1:decide ((4000:Int) < (y.size:Int)) = false)
   (c2:KMk Tab2 6 #[.agg #[.string v,.string n,.string o,.int .i64 f,.string t,.string b]] (.string Y)) (q0:(Y.toList == ([]:List UInt8)) = false) (c3:KMk Tab2 7 #[.string Y] (.tuple #[.agg #[.string v,.string n,.string o,.int .i64 f,.string t,.string b],.int .i64 0])) (e:Int) (_r0:(e == 0) = false) (r1:(e != 0) = true) (_r2:¬ e = 0)
   (c4:KMk Tab2 7 #[.string y] (.tuple #[.agg #[.string ⟨#[]⟩,.string ⟨#[]⟩,.string ⟨#[]⟩,.int .i64 0,.string ⟨#[]⟩,.string ⟨#[]⟩],.int .i64 e])) :
   Calls Tryd.prog 3 #[.agg #[.string v,.string n,.string o,.int .i64 f,.string t,.string b],.string y] w fun x w' => x = .returned (.bool true) /\ Since w w':=by
 have qy:(y.toList == y.toList) = true:=beq_self_eq_true _
 have HT:=lH hT
 have HS:=lH ((Since.refl w).alloc (.cells #[.string v,.string n,.string o,.int .i64 f,.string t,.string b] 23))
 have HB:Hid (BX w.heap.size #[.string v,.string n,.string o,.int .i64 f,.string t,.string b] 23 (w.alloc (.cells #[.string v,.string n,.string o,.int .i64 f,.string t,.string b] 23))):=lH (heap_alloc_new w _)
 have c9:=Scr.awake
 clear hT
 go_enter Tryd.func3,Tryd.ntmps3
 go_wp2_with fail
 refine c1.calls0 ?_
 intro w1 h1
 replace HS:=lH (HS.out.step h1)
 replace HB:=bx_step h1 HB
 clear h1
 have m0:=row_cell HB.out 0 _ rfl
 have m1:=row_cell HB.out 1 _ rfl
 have m2:=row_cell HB.out 2 _ rfl
 have m3:=row_cell HB.out 3 _ rfl
 have m4:=row_cell HB.out 4 _ rfl
 have m5:=row_cell HB.out 5 _ rfl
 go_wp2_with fail
 clear m0 m1 m2 m3 m4 m5
 refine c2.calls0 (Kp.keep HT.out HS.out) ?_
 intro w2 h2
 replace HS:=lH (HS.out.step h2)
 replace HB:=bx_step h2 HB
 clear h2
 go_wp2_with fail
 refine c3.calls0 (Kp.keep HT.out HS.out) ?_
 intro w3 h3
 have hal:Since w3 (w3.alloc (.cells #[.string v,.string n,.string o,.int .i64 f,.string t,.string b] 27)):=(Since.refl w3).alloc _
 replace HS:=lH ((HS.out.step h3).step hal)
 replace HB:=bx_step hal (bx_step h3 HB)
 have m0:=row_cell HB.out 0 _ rfl
 have m1:=row_cell HB.out 1 _ rfl
 have m2:=row_cell HB.out 2 _ rfl
 have m3:=row_cell HB.out 3 _ rfl
 have m4:=row_cell HB.out 4 _ rfl
 have m5:=row_cell HB.out 5 _ rfl
 have e0:(v.toList == v.toList) = true:=beq_self_eq_true _
 have e1:(n.toList == n.toList) = true:=beq_self_eq_true _
 have e2:(o.toList == o.toList) = true:=beq_self_eq_true _
 have e3:(f == f) = true:=beq_self_eq_true _
 have e4:(t.toList == t.toList) = true:=beq_self_eq_true _
 have e5:(b.toList == b.toList) = true:=beq_self_eq_true _
 clear h3 hal
 go_wp2_with fail
 clear m0 m1 m2 m3 m4 m5
 refine c4.calls0 (Kp.keep HT.out HS.out) ?_
 intro w4 h4
 replace HS:=lH (HS.out.step h4)
 clear h4
 have hal:Since w4 (w4.alloc (.cells #[.string ⟨#[]⟩,.string ⟨#[]⟩,.string ⟨#[]⟩,.int .i64 0,.string ⟨#[]⟩,.string ⟨#[]⟩] 27)):=(Since.refl w4).alloc _
 replace HS:=lH (HS.out.step hal)
 clear hal
 go_wp2_with fail
 refine c9.calls0 (Kp.keep HT.out HS.out) ?_
 intro w9 h9
 replace HS:=lH (HS.out.step h9)
 clear h9
 go_wp2_with fail
 go_ret
 exact ⟨rfl,HS.out⟩
set_option maxHeartbeats 8000000 in
theorem core_01 (w:World) (hT:Tab2 w) (v n o t b y Y:ByteArray) (f:Int) (c1:Mak 4 #[.agg #[.string v,.string n,.string o,.int .i64 f,.string t,.string b]] (.bool true)) (t1:decide ((4000:Int) < (y.size:Int)) = false)
   (c2:KMk Tab2 6 #[.agg #[.string v,.string n,.string o,.int .i64 f,.string t,.string b]] (.string Y)) (q0:(Y.toList == ([]:List UInt8)) = true) (xv xn xo xt xb:ByteArray) (xf:Int) (c5:KMk Tab2 6 #[.agg #[.string xv,.string xn,.string xo,.int .i64 xf,.string xt,.string xb]] (.string y))
   (c4:KMk Tab2 7 #[.string y] (.tuple #[.agg #[.string xv,.string xn,.string xo,.int .i64 xf,.string xt,.string xb],.int .i64 0])) :
   Calls Tryd.prog 3 #[.agg #[.string v,.string n,.string o,.int .i64 f,.string t,.string b],.string y] w fun x w' => x = .returned (.bool true) /\ Since w w':=by
 have qy:(y.toList == y.toList) = true:=beq_self_eq_true _
 have HT:=lH hT
 have HS:=lH ((Since.refl w).alloc (.cells #[.string v,.string n,.string o,.int .i64 f,.string t,.string b] 23))
 have HB:Hid (BX w.heap.size #[.string v,.string n,.string o,.int .i64 f,.string t,.string b] 23 (w.alloc (.cells #[.string v,.string n,.string o,.int .i64 f,.string t,.string b] 23))):=lH (heap_alloc_new w _)
 have c9:=Scr.awake
 clear hT
 go_enter Tryd.func3,Tryd.ntmps3
 go_wp2_with fail
 refine c1.calls0 ?_
 intro w1 h1
 replace HS:=lH (HS.out.step h1)
 replace HB:=bx_step h1 HB
 clear h1
 have m0:=row_cell HB.out 0 _ rfl
 have m1:=row_cell HB.out 1 _ rfl
 have m2:=row_cell HB.out 2 _ rfl
 have m3:=row_cell HB.out 3 _ rfl
 have m4:=row_cell HB.out 4 _ rfl
 have m5:=row_cell HB.out 5 _ rfl
 go_wp2_with fail
 clear m0 m1 m2 m3 m4 m5
 refine c2.calls0 (Kp.keep HT.out HS.out) ?_
 intro w2 h2
 replace HS:=lH (HS.out.step h2)
 replace HB:=bx_step h2 HB
 clear h2
 go_wp2_with fail
 skip
 refine c4.calls0 (Kp.keep HT.out HS.out) ?_
 intro w4 h4
 replace HS:=lH (HS.out.step h4)
 clear h4
 have hal:Since w4 (w4.alloc (.cells #[.string xv,.string xn,.string xo,.int .i64 xf,.string xt,.string xb] 27)):=(Since.refl w4).alloc _
 replace HS:=lH (HS.out.step hal)
 clear hal
 go_wp2_with fail
 refine c5.calls0 (Kp.keep HT.out HS.out) ?_
 intro w5 h5
 replace HS:=lH (HS.out.step h5)
 clear h5
 go_wp2_with fail
 refine c9.calls0 (Kp.keep HT.out HS.out) ?_
 intro w9 h9
 replace HS:=lH (HS.out.step h9)
 clear h9
 go_wp2_with fail
 go_ret
 exact ⟨rfl,HS.out⟩
set_option maxHeartbeats 8000000 in
theorem core_00 (w:World) (hT:Tab2 w) (v n o t b y Y:ByteArray) (f:Int) (c1:Mak 4 #[.agg #[.string v,.string n,.string o,.int .i64 f,.string t,.string b]] (.bool true)) (t1:decide ((4000:Int) < (y.size:Int)) = false)
   (c2:KMk Tab2 6 #[.agg #[.string v,.string n,.string o,.int .i64 f,.string t,.string b]] (.string Y)) (q0:(Y.toList == ([]:List UInt8)) = true) (e:Int) (_r0:(e == 0) = false) (r1:(e != 0) = true) (_r2:¬ e = 0)
   (c4:KMk Tab2 7 #[.string y] (.tuple #[.agg #[.string ⟨#[]⟩,.string ⟨#[]⟩,.string ⟨#[]⟩,.int .i64 0,.string ⟨#[]⟩,.string ⟨#[]⟩],.int .i64 e])) :
   Calls Tryd.prog 3 #[.agg #[.string v,.string n,.string o,.int .i64 f,.string t,.string b],.string y] w fun x w' => x = .returned (.bool true) /\ Since w w':=by
 have qy:(y.toList == y.toList) = true:=beq_self_eq_true _
 have HT:=lH hT
 have HS:=lH ((Since.refl w).alloc (.cells #[.string v,.string n,.string o,.int .i64 f,.string t,.string b] 23))
 have HB:Hid (BX w.heap.size #[.string v,.string n,.string o,.int .i64 f,.string t,.string b] 23 (w.alloc (.cells #[.string v,.string n,.string o,.int .i64 f,.string t,.string b] 23))):=lH (heap_alloc_new w _)
 have c9:=Scr.awake
 clear hT
 go_enter Tryd.func3,Tryd.ntmps3
 go_wp2_with fail
 refine c1.calls0 ?_
 intro w1 h1
 replace HS:=lH (HS.out.step h1)
 replace HB:=bx_step h1 HB
 clear h1
 have m0:=row_cell HB.out 0 _ rfl
 have m1:=row_cell HB.out 1 _ rfl
 have m2:=row_cell HB.out 2 _ rfl
 have m3:=row_cell HB.out 3 _ rfl
 have m4:=row_cell HB.out 4 _ rfl
 have m5:=row_cell HB.out 5 _ rfl
 go_wp2_with fail
 clear m0 m1 m2 m3 m4 m5
 refine c2.calls0 (Kp.keep HT.out HS.out) ?_
 intro w2 h2
 replace HS:=lH (HS.out.step h2)
 replace HB:=bx_step h2 HB
 clear h2
 go_wp2_with fail
 skip
 refine c4.calls0 (Kp.keep HT.out HS.out) ?_
 intro w4 h4
 replace HS:=lH (HS.out.step h4)
 clear h4
 have hal:Since w4 (w4.alloc (.cells #[.string ⟨#[]⟩,.string ⟨#[]⟩,.string ⟨#[]⟩,.int .i64 0,.string ⟨#[]⟩,.string ⟨#[]⟩] 27)):=(Since.refl w4).alloc _
 replace HS:=lH (HS.out.step hal)
 clear hal
 go_wp2_with fail
 refine c9.calls0 (Kp.keep HT.out HS.out) ?_
 intro w9 h9
 replace HS:=lH (HS.out.step h9)
 clear h9
 go_wp2_with fail
 go_ret
 exact ⟨rfl,HS.out⟩
theorem pars_size (y:ByteArray) (hy:y.size <= 4000) (S:St) (h:parsV Rok candP y.data.toList = (S,0)):S.v.size <= 40000 /\ S.n.size <= 40000 /\ S.o.size <= 40000 /\ S.t.size <= 40000 /\ S.b.size <= 40000:=by
 have h1:=pars_le _ S h
 have h2:y.data.toList.length = y.size:=rfl
 unfold LeS at h1
 omega
theorem walk (W:World) (v n o:ByteArray) (f:Int) (t b:ByteArray) (y:ByteArray) (_wy:y.size <= maxLen) (hT:Tab2 W) :
   Calls Tryd.prog 3 #[.agg #[.string v,.string n,.string o,.int .i64 f,.string t,.string b],.string y] W fun e w' => e = .returned (.bool true) /\ Below W.heap.size W w':=by
 have c1:=small_mk v n o t b f
 cases hs:smB v n o t b with
 | false => rw [hs] at c1; exact big_1 W hT v n o t b y f c1
 | true =>
   rw [hs] at c1
   obtain ⟨zv,zn,zo,zt,zb⟩:=sm_spec hs
   by_cases hy:4000 < y.size
   · exact big_2 W hT v n o t b y f c1 (decide_eq_true (by omega))
   have t1:decide ((4000:Int) < (y.size:Int)) = false:=decide_eq_false (by omega)
   have c2:=text_k ⟨v,n,o,f,t,b⟩ (by show n.size <= _; omega) (by show o.size <= _; omega) (by show t.size <= _; omega) (by show b.size <= _; omega) (by show v.size <= _; omega)
   have c4:=pars_k y (by omega)
   obtain ⟨X,hX⟩:∃ X,X = (parsV Rok candP y.data.toList).1:=⟨_,rfl⟩
   obtain ⟨E,hE⟩:∃ E,E = (parsV Rok candP y.data.toList).2:=⟨_,rfl⟩
   have hXE:parsV Rok candP y.data.toList = (X,E):=by rw [hX,hE]
   rw [hXE] at c4
   obtain ⟨Y,hY⟩:∃ Y,Y = bs (textV Rok ⟨v,n,o,f,t,b⟩):=⟨_,rfl⟩
   rw [<- hY] at c2
   have hYl:Y.data.toList = textV Rok ⟨v,n,o,f,t,b⟩:=by rw [hY,list_bs]
   have c3:textV Rok ⟨v,n,o,f,t,b⟩ ≠ [] -> KMk Tab2 7 #[.string Y] (.tuple #[.agg #[.string v,.string n,.string o,.int .i64 f,.string t,.string b],.int .i64 0]):=fun h => by
     have h1:=pars_text Rok _ h
     have hz:Y.size <= 1000000:=by
       obtain ⟨fs,_,_,_,h2,h3⟩:=text_ok h
       have h4:Y.size = (textV Rok ⟨v,n,o,f,t,b⟩).length:=by rw [<- hYl]; rfl
       rw [h4,h3]
       omega
     have h5:=pars_k Y hz
     rw [hYl,h1] at h5
     exact h5
   by_cases h0:textV Rok ⟨v,n,o,f,t,b⟩ = []
   · have q0:(Y.toList == ([]:List UInt8)) = true:=by rw [toList_d,hYl,h0]; rfl
     by_cases he:E = 0
     · subst he
       have hz:=pars_size y (by omega) X hXE
       have c5:=text_k X hz.2.1 hz.2.2.1 hz.2.2.2.1 hz.2.2.2.2 hz.1
       have h6:=pars_ok Rok candP y.data.toList (by rw [hXE])
       rw [hXE] at h6
       rw [show textV Rok X = y.data.toList from h6,bs_l] at c5
       exact core_01 W hT v n o t b y Y f c1 t1 c2 q0 X.v X.n X.o X.t X.b X.f c5 c4
     · have h6:=pars_no Rok candP y.data.toList (by rw [hXE]; exact he)
       rw [hXE] at h6
       have h7:X = noS:=h6
       subst h7
       exact core_00 W hT v n o t b y Y f c1 t1 c2 q0 E (beq_eq_false_iff_ne.2 he) (by simpa using he) he c4
   · have q0:(Y.toList == ([]:List UInt8)) = false:=by rw [toList_d,hYl]; exact beq_eq_false_iff_ne.2 h0
     by_cases he:E = 0
     · subst he
       have hz:=pars_size y (by omega) X hXE
       have c5:=text_k X hz.2.1 hz.2.2.1 hz.2.2.2.1 hz.2.2.2.2 hz.1
       have h6:=pars_ok Rok candP y.data.toList (by rw [hXE])
       rw [hXE] at h6
       rw [show textV Rok X = y.data.toList from h6,bs_l] at c5
       exact core_11 W hT v n o t b y Y f c1 t1 c2 q0 (c3 h0) X.v X.n X.o X.t X.b X.f c5 c4
     · have h6:=pars_no Rok candP y.data.toList (by rw [hXE]; exact he)
       rw [hXE] at h6
       have h7:X = noS:=h6
       subst h7
       exact core_10 W hT v n o t b y Y f c1 t1 c2 q0 (c3 h0) E (beq_eq_false_iff_ne.2 he) (by simpa using he) he c4
theorem own:ownKnob Tryd.prog.godebug = none:=by kernel_rfl
theorem laidOut:laidOutB Tryd.prog = true:=by kernel_rfl
def laidL : List (String × DataW Unit) := [("unicode/utf8.acceptRanges", Rows.laid_unicode_utf8_acceptRanges), ("claviger/curve.lines", Rows.laid_claviger_curve_lines), ("claviger/kind.lines", Rows.laid_claviger_kind_lines), ("unicode/utf8.first", Rows.laid_unicode_utf8_first)]
theorem lifted (os:Os) (started:os.Started) (H:Type) (enc:TypeId × Value -> H) :
   ReturnsInHanded {} Tryd.checked os 3 .any (fun w args => (Rows.scriptBackSpec.pre enc Tryd.prog Tryd.f3 [] false w args /\ laidMetH Tryd.prog laidL w) /\ sizedMet enc Tryd.prog Tryd.f3 (OpenSpec.ofChange Rows.scriptBackSpec) false w args)
     (Rows.scriptBackSpec.post enc Tryd.prog Tryd.f3 false true false false):=by
 refine returnsInHanded_of_change_and (C:=Tryd.checked) (X:=fun w _ => laidMetH Tryd.prog laidL w) (fun _ _ _ hh h => h.of_heap hh) own started (by kernel_rfl) Tryd.func3
   (ChangeSpec.witness_shaped (enc:=enc) (C:=Tryd.checked) (os:=os) (X:=fun w _ => laidMetH Tryd.prog laidL w) false (World.laidAll Tryd.prog os laidL) #[.agg #[.string ⟨#[]⟩,.string ⟨#[]⟩,.string ⟨#[]⟩,.int .i64 0,.string ⟨#[]⟩,.string ⟨#[]⟩],.string ⟨#[]⟩] 8 (World.laidAll_os _ _ _) (World.shaped_of_ZipB (by kernel_rfl) (by kernel_rfl)) (by kernel_rfl) (by kernel_rfl) (by kernel_rfl) (by rw [MakeChecks.laidMetH_plain _ _ _ (by kernel_rfl)]; exact laidMet_laidAll _ (by kernel_rfl) (by kernel_rfl))) ?_
 intro W base args ds gs before hval0 hW _ _ hL _
 have hval:∀ (j:Nat) t v,Tryd.f3.params[j]? = some t -> args[j]? = some v -> Value.okWide Tryd.prog W .any base t v:=hval0
 have hW':=hW
 obtain ⟨p,q,hA0,hV,rfl,hfz,hnd⟩:=hW
 have hA:DataW.TrodAll enc Tryd.prog W 0 (fun _ => true) true Tryd.f3.params.toList args.toList ds p:=hA0
 rw [Tryd.params3] at hA hval
 obtain ⟨v0,vs0,d0,ds0,p0,q0,hargs,rfl,rfl,h0,r0⟩:=trodAll_cons hA
 obtain ⟨v1,vs1,d1,ds1,p1,q1,rfl,rfl,rfl,h1,r1⟩:=trodAll_cons r0
 obtain ⟨rfl,rfl,rfl⟩:=trodAll_nil r1
 obtain rfl:args = #[v0,v1]:=by cases args; simp_all
 obtain ⟨rfl,rfl⟩:=trodVars_none hV
 have h0k:=h0
 have hlt0:∀ x ∈ p0,x.block < W.heap.size:=fun x hx => by simpa using hW'.lt x (by simp [hx])
 obtain ⟨a0_v,a0_n,a0_o,a0_f,a0_t,a0_b,rfl⟩:=Scr.step_arg (hval 0 23 v0 rfl rfl) h0 hlt0
 obtain ⟨a1,rfl,rfl,rfl,w1⟩:=Go.ChangeMaps.open_string Tryd.underlying9 (hval 1 9 v1 rfl rfl) h1
 clear hA0 hval0
 simp only [List.append_nil] at hW'
 refine (walk W a0_v a0_n a0_o a0_f a0_t a0_b a1  w1 (Kind.tabs4_of hL)).mono fun e W' ⟨he,hg⟩ => ?_
 subst he
 exact ⟨_,rfl,_,_,_,_,_,[],hW',(trodAll_cons_mk (shut_bool Tryd.underlying4 _) trodAll_mk0),(trodAll_cons_mk (Below.trod laidOut (by kernel_rfl) (of_decide_eq_true (by kernel_rfl)) h0k hg hlt0) (trodAll_cons_mk (Go.ChangeMaps.shut_string Tryd.underlying9 w1) trodAll_mk0)),rfl,hg.frame _,fun h => by cases h⟩
theorem over:Rows.scriptBackRow.holds Tryd.pinned (OpenSpec.ofChange Rows.scriptBackSpec) :=
 OpenClaim.holds_of_wide 3 Tryd.f3 rfl rfl rfl rfl rfl rfl rfl ⟨rfl,rfl,rfl,rfl,rfl⟩ rfl rfl rfl rfl rfl (by kernel_rfl) Tryd.func3 (by kernel_rfl)
   (of_decide_eq_true (by kernel_rfl)) (by unfold Func.isWrapper; first | (rw [if_pos (by decide +kernel)]; kernel_rfl) | (rw [if_neg (by decide +kernel)]; exact ⟨rfl,rfl⟩))
   (fun os started H enc _ => lifted os started H enc)
theorem proved:Rows.ScriptBackCardSaid :=
 Claim7.holds_tied_plain_at .later [] [.data,.data,.data,.pinned] true Rows.scriptBackCard.stood.harness false
   over (fun _ h => by cases h) (by kernel_rfl) (fun _ h => by cases h) scriptBack_row_tie rfl ⟨rfl,rfl⟩ (by kernel_rfl) rfl
   (fun f fn hf hfn => by
     obtain rfl : f = 3 := Option.some.inj ((show Tryd.prog.funcNamed "claviger/clavigerlaw49.ScriptBack" = some 3 by kernel_rfl).symm.trans hf) |>.symm
     obtain rfl:fn = Tryd.f3:=(Option.some.inj (Tryd.func3.symm.trans hfn)).symm
     exact ⟨by kernel_rfl,fun j t ht => by
       rw [Tryd.params3] at ht
       have hm:t ∈ [23,9]:=by simpa using Array.mem_of_getElem? ht
       have hall:([23,9].all fun u => !Tryd.prog.wantsStandIn u) = true:=by kernel_rfl
       exact (show Tryd.prog.wantsStandIn t = false by simpa using List.all_eq_true.1 hall t hm)⟩)
   (by kernel_rfl)
end Go.Proofs.YtcdjfmlanicjlaaDoor.scriptBack
