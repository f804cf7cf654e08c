/- The law ScriptLines: any text has the steps, or the fault, that the reference says; no conditions. -/
import Derived.Test.YtcdjfmlanicjlaaGreatDoorRows
import Derived.WalkKit
import Derived.ProofKit
import Derived.OpenShut
import Derived.Lib.Hide
import Derived.Test.YtcdjfmlanicjlaaGreatDoorSl55
import Derived.Test.YtcdjfmlanicjlaaGreatDoorSl58
import Derived.Test.YtcdjfmlanicjlaaGreatDoorCards
import Derived.Test.YtcdjfmlanicjlaaGreatDoorTie
import Derived.LaidMore
import Derived.SevenTiedAt
import Derived.Stop.Joined
import Derived.Lay
set_option maxRecDepth 100000
namespace Go.Proofs.YtcdjfmlanicjlaaGreatDoor.scriptLines
open Go.ChangeShapes Go.WideShapes Go.ChangeAt Go.RowKit
open Scr Kind
theorem sc_at:∀ (l:List St) (i:Nat) (x:St),l[i]? = some x -> ∀ (j:Nat) (u:Value),(sc x)[j]? = some u -> (l.flatMap sc)[i * 6 + j]? = some u
 | [],i,x,h,_,_,_ => by cases h
 | y :: l,0,x,h,j,u,hj => by
   have e:y = x:=Option.some.inj h
   subst e
   rw [Nat.zero_mul,Nat.zero_add,List.flatMap_cons,List.getElem?_append_left (List.getElem?_eq_some_iff.1 hj).1]
   exact hj
 | y :: l,i + 1,x,h,j,u,hj => by
   have ih:=sc_at l i x h j u hj
   rw [List.flatMap_cons,List.getElem?_append_right (by show 6 <= _; omega)]
   have e:(i + 1) * 6 + j - (sc y).length = i * 6 + j:=by show (i + 1) * 6 + j - 6 = _; omega
   rw [e]
   exact ih
theorem steps_form {w:World} {v:Value} {l:List St} (h:StepsS w v l) (hn:0 < l.length) :
   ∃ b o c,v = .slice (some ⟨b,o,none⟩) l.length c /\ b < w.heap.size /\ ∀ (i:Nat) x,l[i]? = some x -> w.cell? ⟨b,o + i * 6,none⟩ = some (.string x.v) /\ w.cell? ⟨b,o + i * 6 + 1,none⟩ = some (.string x.n) /\ w.cell? ⟨b,o + i * 6 + 2,none⟩ = some (.string x.o) /\
     w.cell? ⟨b,o + i * 6 + 3,none⟩ = some (.int .i64 x.f) /\ w.cell? ⟨b,o + i * 6 + 4,none⟩ = some (.string x.t) /\ w.cell? ⟨b,o + i * 6 + 5,none⟩ = some (.string x.b):=by
 obtain ⟨b,o,c,hv,_,_,a3,a4⟩:=SlR.form h hn
 refine ⟨b,o,c,hv,a3,fun i x hx => ?_⟩
 have hg:∀ j u,(sc x)[j]? = some u -> w.cell? ⟨b,o + i * 6 + j,none⟩ = some u:=fun j u hj => by
   rw [Nat.add_assoc]
   exact a4 _ _ (sc_at l i x hx j u hj)
 exact ⟨hg 0 _ rfl,hg 1 _ rfl,hg 2 _ rfl,hg 3 _ rfl,hg 4 _ rfl,hg 5 _ rfl⟩
theorem belowQ (w:World) (q:Nat):Below w.heap.size w (w.drewN q):=⟨rfl,rfl,rfl,Nat.le_refl _,fun _ _ => rfl⟩
set_option maxHeartbeats 4000000 in
theorem big (w:World) (hT:Tab2 w) (t:ByteArray) (t1:decide ((4000:Int) < (t.size:Int)) = true):Calls Tryz.prog 4 #[.string t] w fun x w' => x = .returned (.bool true) /\ Since w w':=by
 have HT:=lH hT
 have HS:=lH (Since.refl w)
 have c9:=Scr.awake
 clear hT
 go_enter Tryz.func4,Tryz.ntmps4
 go_wp2_with fail
 refine c9.calls0 (Kp.keep HT.out HS.out) ?_
 intro w9 h9
 replace HS:=lH (HS.out.step h9)
 clear h9
 go_wp2_with fail
 go_ret
 exact ⟨rfl,HS.out⟩
set_option maxHeartbeats 8000000 in
theorem core (w:World) (hT:Tab2 w) (t:ByteArray) (l:List St) (c a:Int) (t1:decide ((4000:Int) < (t.size:Int)) = false) (c1:LinR 15 t (l,c,a)) (c2:LinR 16 t (l,c,a)):Calls Tryz.prog 4 #[.string t] w fun x w' => x = .returned (.bool true) /\ Since w w':=by
 have HT:=lH hT
 have HS:=lH (Since.refl w)
 have c9:=Scr.awake
 clear hT
 go_enter Tryz.func4,Tryz.ntmps4
 go_wp2_with fail
 refine (c1 w HT.out).mono ?_
 rintro _ w1 ⟨V1,rfl,s1,h1⟩
 obtain ⟨A1,d1,rfl,-,-⟩:=s1.slice
 have hle:=s1.le
 have hal:Since w1 (w1.alloc (.cells #[.int .i64 c,.int .i64 a] 39)):=(Since.refl w1).alloc _
 replace HS:=lH ((HS.out.step h1).step hal)
 have H1:=lH (SlR.since s1 hal)
 have HB:Hid (BX w1.heap.size #[.int .i64 c,.int .i64 a] 39 (w1.alloc (.cells #[.int .i64 c,.int .i64 a] 39))):=lH (heap_alloc_new w1 _)
 clear h1 s1 hal
 go_wp2_with fail
 obtain ⟨b1,hb1⟩:∃ b,b = w1.heap.size:=⟨_,rfl⟩
 obtain ⟨w2,hw2⟩:∃ W,W = w1.alloc (.cells #[.int .i64 c,.int .i64 a] 39):=⟨_,rfl⟩
 rw [<- hw2,<- hb1] at HB
 rw [<- hw2] at HS H1
 rw [<- hw2,<- hb1]
 clear hw2 hb1
 refine (c2 w2 (Kp.keep HT.out HS.out)).mono ?_
 rintro _ w3 ⟨V2,rfl,s2,h3⟩
 obtain ⟨A2,d2,rfl,-,-⟩:=s2.slice
 have hal:Since w3 (w3.alloc (.cells #[.int .i64 c,.int .i64 a] 39)):=(Since.refl w3).alloc _
 replace HS:=lH ((HS.out.step h3).step hal)
 replace H1:=lH (SlR.since (SlR.since H1.out h3) hal)
 have H2:=lH (SlR.since s2 hal)
 replace HB:=bx_step hal (bx_step h3 HB)
 have HF:Hid (BX w3.heap.size #[.int .i64 c,.int .i64 a] 39 (w3.alloc (.cells #[.int .i64 c,.int .i64 a] 39))):=lH (heap_alloc_new w3 _)
 have f0:=row_cell HB.out 0 _ rfl
 have f1:=row_cell HB.out 1 _ rfl
 have g0:=row_cell HF.out 0 _ rfl
 have g1:=row_cell HF.out 1 _ rfl
 have n1:((l.length:Int) != (l.length:Int)) = false:=bne_self_eq_false _
 have n2:(c != c) = false:=bne_self_eq_false _
 have n3:(a != a) = false:=bne_self_eq_false _
 have n4:(c == c) = true:=beq_self_eq_true _
 have n5:(a == a) = true:=beq_self_eq_true _
 clear h3 s2 hal
 dsimp only at H1 H2 hle ⊢
 go_wp2_with fail
 clear f0 f1 g0 g1 HF HB
 obtain ⟨w5,hw5⟩:∃ W,W = w3.alloc (.cells #[.int .i64 c,.int .i64 a] 39):=⟨_,rfl⟩
 rw [<- hw5] at HS H1 H2
 rw [<- hw5]
 clear hw5
 go_loopw [34] (fun i wr => ∃ k:Nat,k <= l.length /\ i = .int .i64 (k:Int) /\ Hid (Since w5 wr)) (fun i _ => l.length - (intOf i).toNat)
 case atStart => exact ⟨0,Nat.zero_le _,rfl,lH (Since.refl _)⟩
 case round =>
   obtain ⟨k,hk,rfl,HW⟩:=hrel
   by_cases hlt:k < l.length
   · obtain ⟨x,hx⟩:∃ x,l[k]? = some x:=⟨_,List.getElem?_eq_getElem hlt⟩
     obtain ⟨b1,o1,c3,hv1,l1,r1⟩:=steps_form H1.out (by omega)
     obtain ⟨rfl,-,rfl⟩:=Value.slice.inj hv1
     obtain ⟨b2,o2,c4,hv2,l2,r2⟩:=steps_form H2.out (by omega)
     obtain ⟨rfl,-,rfl⟩:=Value.slice.inj hv2
     obtain ⟨p0,p1,p2,p3,p4,p5⟩:=r1 k x hx
     obtain ⟨s0,s1,s2,s3,s4,s5⟩:=r2 k x hx
     replace p0:=(Below.cell HW.out (p:=⟨b1,o1 + k * 6,none⟩) l1).trans p0
     replace p1:=(Below.cell HW.out (p:=⟨b1,o1 + k * 6 + 1,none⟩) l1).trans p1
     replace p2:=(Below.cell HW.out (p:=⟨b1,o1 + k * 6 + 2,none⟩) l1).trans p2
     replace p3:=(Below.cell HW.out (p:=⟨b1,o1 + k * 6 + 3,none⟩) l1).trans p3
     replace p4:=(Below.cell HW.out (p:=⟨b1,o1 + k * 6 + 4,none⟩) l1).trans p4
     replace p5:=(Below.cell HW.out (p:=⟨b1,o1 + k * 6 + 5,none⟩) l1).trans p5
     replace s0:=(Below.cell HW.out (p:=⟨b2,o2 + k * 6,none⟩) l2).trans s0
     replace s1:=(Below.cell HW.out (p:=⟨b2,o2 + k * 6 + 1,none⟩) l2).trans s1
     replace s2:=(Below.cell HW.out (p:=⟨b2,o2 + k * 6 + 2,none⟩) l2).trans s2
     replace s3:=(Below.cell HW.out (p:=⟨b2,o2 + k * 6 + 3,none⟩) l2).trans s3
     replace s4:=(Below.cell HW.out (p:=⟨b2,o2 + k * 6 + 4,none⟩) l2).trans s4
     replace s5:=(Below.cell HW.out (p:=⟨b2,o2 + k * 6 + 5,none⟩) l2).trans s5
     have t3:decide ((k:Int) < (l.length:Int)) = true:=decide_eq_true (by omega)
     have t4:decide (k < l.length) = true:=decide_eq_true hlt
     have b5:(0:Int) <= (k:Int):=by omega
     have b6:(k:Int) < (l.length:Int):=by omega
     have e0:(x.v.toList == x.v.toList) = true:=beq_self_eq_true _
     have e1:(x.n.toList == x.n.toList) = true:=beq_self_eq_true _
     have e2:(x.o.toList == x.o.toList) = true:=beq_self_eq_true _
     have e3:(x.f == x.f) = true:=beq_self_eq_true _
     have e4:(x.t.toList == x.t.toList) = true:=beq_self_eq_true _
     have e5:(x.b.toList == x.b.toList) = true:=beq_self_eq_true _
     have e6:IntKind.i64.wrap ((k:Int) + 1) = (k:Int) + 1:=IntWalk.i64_in _ (by omega)
     clear hx r1 r2 hv1 hv2
     go_wp2_with fail
     go_quiet (fail)
     have HW2:Hid (Since w5 (wr.drewN nq)):=lH (HW.out.step (belowQ _ nq))
     clear p0 p1 p2 p3 p4 p5 s0 s1 s2 s3 s4 s5
     go_wp2_with fail
     go_roundw
     case rel => exact ⟨k + 1,by omega,by go_num,HW2⟩
     case measure => simp [intOf]; omega
   · obtain rfl:k = l.length:=by omega
     replace HS:=lH (HS.out.step HW.out)
     go_wp2_with fail
     refine c9.calls0 (Kp.keep HT.out HS.out) ?_
     intro w9 h9
     replace HS:=lH (HS.out.step h9)
     clear h9
     go_wp2_with fail
     go_ret
     exact ⟨rfl,HS.out⟩
theorem walk (y:ByteArray) (_wy:y.size <= maxLen) (W:World) (hT:Tab2 W) :
   Calls Tryz.prog 4 #[.string y] W fun e w' => e = .returned (.bool true) /\ Below W.heap.size W w':=by
 by_cases hy:4000 < y.size
 · exact big W hT y (decide_eq_true (by omega))
 have t1:decide ((4000:Int) < (y.size:Int)) = false:=decide_eq_false (by omega)
 have c1:=lines_k y (by omega)
 have c2:=rlines_k y (by omega)
 rw [lin_same] at c2
 exact core W hT y _ _ _ t1 c1 c2
theorem own:ownKnob Tryz.prog.godebug = none:=by kernel_rfl
def laidL : List (String × DataW Unit) := [("unicode/utf8.acceptRanges", Rows.laid_unicode_utf8_acceptRanges), ("claviger/curve.lines", Rows.laid_claviger_curve_lines), ("claviger/kind.lines", Rows.laid_claviger_kind_lines), ("unicode/utf8.first", Rows.laid_unicode_utf8_first)]
theorem lifted (os:Os) (started:os.Started) (H:Type) (enc:TypeId × Value -> H) :
   ReturnsInHanded {} Tryz.checked os 4 .any (fun w args => (Rows.scriptLinesSpec.pre enc Tryz.prog Tryz.f4 [] false w args /\ laidMetH Tryz.prog laidL w) /\ sizedMet enc Tryz.prog Tryz.f4 (OpenSpec.ofChange Rows.scriptLinesSpec) false w args)
     (Rows.scriptLinesSpec.post enc Tryz.prog Tryz.f4 false true false false):=by
 refine returnsInHanded_of_change_and (C:=Tryz.checked) (X:=fun w _ => laidMetH Tryz.prog laidL w) (fun _ _ _ hh h => h.of_heap hh) own started (by kernel_rfl) Tryz.func4
   (ChangeSpec.witness_shaped (enc:=enc) (C:=Tryz.checked) (os:=os) (X:=fun w _ => laidMetH Tryz.prog laidL w) false (World.laidAll Tryz.prog os laidL) #[.string ⟨#[]⟩] 8 (World.laidAll_os _ _ _) (World.shaped_of_ZipB (by kernel_rfl) (by kernel_rfl)) (by kernel_rfl) (by kernel_rfl) (by kernel_rfl) (by rw [MakeChecks.laidMetH_plain _ _ _ (by kernel_rfl)]; exact laidMet_laidAll _ (by kernel_rfl) (by kernel_rfl))) ?_
 intro W base args ds gs before hval0 hW _ _ hL _
 have hval:∀ (j:Nat) t v,Tryz.f4.params[j]? = some t -> args[j]? = some v -> Value.okWide Tryz.prog W .any base t v:=hval0
 have hW':=hW
 obtain ⟨p,q,hA0,hV,rfl,hfz,hnd⟩:=hW
 have hA:DataW.TrodAll enc Tryz.prog W 0 (fun _ => true) true Tryz.f4.params.toList args.toList ds p:=hA0
 rw [Tryz.params4] at hA hval
 obtain ⟨v0,vs0,d0,ds0,p0,q0,hargs,rfl,rfl,h0,r0⟩:=trodAll_cons hA
 obtain ⟨rfl,rfl,rfl⟩:=trodAll_nil r0
 obtain rfl:args = #[v0]:=by cases args; simp_all
 obtain ⟨rfl,rfl⟩:=trodVars_none hV
 obtain ⟨a0,rfl,rfl,rfl,w0⟩:=Go.ChangeMaps.open_string Tryz.underlying9 (hval 0 9 v0 rfl rfl) h0
 clear hA0 hval0
 simp only [List.append_nil] at hW'
 refine (walk a0 w0 W (Kind.tabs4_of hL)).mono fun e W' ⟨he,hg⟩ => ?_
 subst he
 exact ⟨_,rfl,_,_,_,_,_,[],hW',(trodAll_cons_mk (shut_bool Tryz.underlying4 _) trodAll_mk0),(trodAll_cons_mk (Go.ChangeMaps.shut_string Tryz.underlying9 w0) trodAll_mk0),rfl,hg.frame _,fun h => by cases h⟩
theorem over:Rows.scriptLinesRow.holds Tryz.pinned (OpenSpec.ofChange Rows.scriptLinesSpec) :=
 OpenClaim.holds_of_wide 4 Tryz.f4 rfl rfl rfl rfl rfl rfl rfl ⟨rfl,rfl,rfl,rfl,rfl⟩ rfl rfl rfl rfl rfl (by kernel_rfl) Tryz.func4 (by kernel_rfl)
   (of_decide_eq_true (by kernel_rfl)) (by unfold Func.isWrapper; first | (rw [if_pos (by decide +kernel)]; kernel_rfl) | (rw [if_neg (by decide +kernel)]; exact ⟨rfl,rfl⟩))
   (fun os started H enc _ => lifted os started H enc)
theorem proved:Rows.ScriptLinesCardSaid :=
 Claim7.holds_tied_plain_at .later [] [.data,.data,.data,.pinned] true Rows.scriptLinesCard.stood.harness false
   over (fun _ h => by cases h) (by kernel_rfl) (fun _ h => by cases h) scriptLines_row_tie rfl ⟨rfl,rfl⟩ (by kernel_rfl) rfl
   (fun f fn hf hfn => by
     obtain rfl : f = 4 := Option.some.inj ((show Tryz.prog.funcNamed "claviger/clavigerlaw49.ScriptLines" = some 4 by kernel_rfl).symm.trans hf) |>.symm
     obtain rfl:fn = Tryz.f4:=(Option.some.inj (Tryz.func4.symm.trans hfn)).symm
     exact ⟨by kernel_rfl,fun j t ht => by
       rw [Tryz.params4] at ht
       have hm:t ∈ [9]:=by simpa using Array.mem_of_getElem? ht
       have hall:([9].all fun u => !Tryz.prog.wantsStandIn u) = true:=by kernel_rfl
       exact (show Tryz.prog.wantsStandIn t = false by simpa using List.all_eq_true.1 hall t hm)⟩)
   (by kernel_rfl)
end Go.Proofs.YtcdjfmlanicjlaaGreatDoor.scriptLines
