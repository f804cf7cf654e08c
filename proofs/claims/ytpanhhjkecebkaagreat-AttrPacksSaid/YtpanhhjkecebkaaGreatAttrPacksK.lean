/- The law AttrPacks: any attributes are written, any bytes read, as the document says; no conditions. -/
import Derived.Test.YtpanhhjkecebkaaGreatRows
import Derived.WalkKit
import Derived.ProofKit
import Derived.OpenShut
import Derived.Lib.Hide
import Derived.Laws.StructEq
import Derived.Test.YtpanhhjkecebkaaGreatAp47
import Derived.Test.YtpanhhjkecebkaaGreatAp16
set_option maxRecDepth 100000
namespace Go.Proofs.YtpanhhjkecebkaaGreat.attrPacks
open Go.ChangeShapes Go.WideShapes Go.ChangeAt Go.RowKit
open Att Atf Atm
theorem core_few (w:World) (A:Option Addr) (n c:Nat) (l:List A2) (t:Int) (v s:ByteArray) (hx:AttsS w (.slice A n c) l) (c0:RdA 7 l (fun x => #[x,.int .i64 60]) (.bool false)):Calls Tryz.prog 4 #[.slice A n c,.agg #[.int .i64 t,.string v],.string s] w fun e w' => e = .returned (.bool true) /\ Since w w':=by
 have hs0:=(Since.refl w).alloc (.cells #[.int .i64 t,.string v] 35)
 have HX:=lH (hx.since hs0)
 have HS:=lH hs0
 have HBX:=lH (At2.box w t v 35)
 clear hx hs0
 go_enter Tryz.func4,Tryz.ntmps4
 go_wp2_with fail
 refine c0.calls0 HX.out ?_
 intro w0 h0
 replace HS:=lH (HS.out.step h0)
 replace HX:=lH (HX.out.since h0)
 replace HBX:=lH (HBX.out.since h0)
 obtain ⟨n0,n1,-⟩:=HBX.out
 rw [Nat.zero_add] at n1
 clear h0
 go_wp2_with fail
 clear n0 n1
 refine Atf.awake.calls0 ?_
 intro w99 h99
 replace HS:=lH (HS.out.step h99)
 clear h99
 go_wp2_with fail
 go_ret
 exact ⟨rfl,HS.out⟩
theorem core_long (w:World) (A:Option Addr) (n c:Nat) (l:List A2) (t:Int) (v s:ByteArray) (hx:AttsS w (.slice A n c) l) (hv:300 < v.size) (c0:RdA 7 l (fun x => #[x,.int .i64 60]) (.bool true)):Calls Tryz.prog 4 #[.slice A n c,.agg #[.int .i64 t,.string v],.string s] w fun e w' => e = .returned (.bool true) /\ Since w w':=by
 have q1:decide ((300:Int) < (v.size:Int)) = true:=decide_eq_true (by omega)
 clear hv
 have hs0:=(Since.refl w).alloc (.cells #[.int .i64 t,.string v] 35)
 have HX:=lH (hx.since hs0)
 have HS:=lH hs0
 have HBX:=lH (At2.box w t v 35)
 clear hx hs0
 go_enter Tryz.func4,Tryz.ntmps4
 go_wp2_with fail
 refine c0.calls0 HX.out ?_
 intro w0 h0
 replace HS:=lH (HS.out.step h0)
 replace HX:=lH (HX.out.since h0)
 replace HBX:=lH (HBX.out.since h0)
 obtain ⟨n0,n1,-⟩:=HBX.out
 rw [Nat.zero_add] at n1
 clear h0
 go_wp2_with fail
 clear n0 n1
 refine Atf.awake.calls0 ?_
 intro w99 h99
 replace HS:=lH (HS.out.step h99)
 clear h99
 go_wp2_with fail
 go_ret
 exact ⟨rfl,HS.out⟩
theorem core_long2 (w:World) (A:Option Addr) (n c:Nat) (l:List A2) (t:Int) (v s:ByteArray) (hx:AttsS w (.slice A n c) l) (hv:v.size <= 300) (hs:1000 < s.size) (c0:RdA 7 l (fun x => #[x,.int .i64 60]) (.bool true)):Calls Tryz.prog 4 #[.slice A n c,.agg #[.int .i64 t,.string v],.string s] w fun e w' => e = .returned (.bool true) /\ Since w w':=by
 have q1:decide ((300:Int) < (v.size:Int)) = false:=decide_eq_false (by omega)
 have q2:decide ((1000:Int) < (s.size:Int)) = true:=decide_eq_true (by omega)
 clear hv hs
 have hs0:=(Since.refl w).alloc (.cells #[.int .i64 t,.string v] 35)
 have HX:=lH (hx.since hs0)
 have HS:=lH hs0
 have HBX:=lH (At2.box w t v 35)
 clear hx hs0
 go_enter Tryz.func4,Tryz.ntmps4
 go_wp2_with fail
 refine c0.calls0 HX.out ?_
 intro w0 h0
 replace HS:=lH (HS.out.step h0)
 replace HX:=lH (HX.out.since h0)
 replace HBX:=lH (HBX.out.since h0)
 obtain ⟨n0,n1,-⟩:=HBX.out
 rw [Nat.zero_add] at n1
 clear h0
 go_wp2_with fail
 clear n0 n1
 refine Atf.awake.calls0 ?_
 intro w99 h99
 replace HS:=lH (HS.out.step h99)
 clear h99
 go_wp2_with fail
 go_ret
 exact ⟨rfl,HS.out⟩
set_option maxHeartbeats 8000000 in
theorem core (w:World) (A:Option Addr) (n c:Nat) (l:List A2) (t:Int) (v s:ByteArray) (hx:AttsS w (.slice A n c) l) (hv:v.size <= 300) (hs:s.size <= 1000) (c0:RdA 7 l (fun x => #[x,.int .i64 60]) (.bool true)) (X:ByteArray) (E:Int) (c1:RdA 18 l (fun x => #[x]) (.tuple #[.string X,.int .i64 E])) (c2:RdA 19 l (fun x => #[x]) (.tuple #[.string X,.int .i64 E]))
   (R:List A2) (F:Int) (c3:UnR 20 s (R,F)) (c4:UnR 21 s (R,F)) (Y:ByteArray) (G:Int) (c5:Mak 22 #[.agg #[.int .i64 t,.string v]] (.tuple #[.string Y,.int .i64 G])) (c6:Mak 23 #[.agg #[.int .i64 t,.string v]] (.tuple #[.string Y,.int .i64 G]))
   (t2:Int) (v2:ByteArray) (H:Int) (c7:Mak 24 #[.string s] (.tuple #[.agg #[.int .i64 t2,.string v2],.int .i64 H])) (c8:Mak 25 #[.string s] (.tuple #[.agg #[.int .i64 t2,.string v2],.int .i64 H])) (ca:EqA 17 R R true):Calls Tryz.prog 4 #[.slice A n c,.agg #[.int .i64 t,.string v],.string s] w fun e w' => e = .returned (.bool true) /\ Since w w':=by
 have q1:decide ((300:Int) < (v.size:Int)) = false:=decide_eq_false (by omega)
 have q2:decide ((1000:Int) < (s.size:Int)) = false:=decide_eq_false (by omega)
 have u1:(X.toList == X.toList) = true:=beq_self_eq_true _
 have u2:(E == E) = true:=beq_self_eq_true _
 have u3:(F == F) = true:=beq_self_eq_true _
 have u4:(Y.toList == Y.toList) = true:=beq_self_eq_true _
 have u5:(G == G) = true:=beq_self_eq_true _
 have u6:(H == H) = true:=beq_self_eq_true _
 have u7:(t2 == t2) = true:=beq_self_eq_true _
 have u8:(v2.toList == v2.toList) = true:=beq_self_eq_true _
 have u9:(E != E) = false:=by simp
 have u10:(F != F) = false:=by simp
 clear hv hs
 have hs0:=(Since.refl w).alloc (.cells #[.int .i64 t,.string v] 35)
 have HX:=lH (hx.since hs0)
 have HS:=lH hs0
 have HBX:=lH (At2.box w t v 35)
 clear hx hs0
 go_enter Tryz.func4,Tryz.ntmps4
 go_wp2_with fail
 refine c0.calls0 HX.out ?_
 intro w0 h0
 replace HS:=lH (HS.out.step h0)
 replace HX:=lH (HX.out.since h0)
 replace HBX:=lH (HBX.out.since h0)
 obtain ⟨n0,n1,-⟩:=HBX.out
 rw [Nat.zero_add] at n1
 clear h0
 go_wp2_with fail
 clear n0 n1
 refine c1.calls0 HX.out ?_
 intro w1 h1
 replace HS:=lH (HS.out.step h1)
 replace HX:=lH (HX.out.since h1)
 replace HBX:=lH (HBX.out.since h1)
 clear h1
 go_wp2_with fail
 refine c2.calls0 HX.out ?_
 intro w2 h2
 replace HS:=lH (HS.out.step h2)
 replace HX:=lH (HX.out.since h2)
 replace HBX:=lH (HBX.out.since h2)
 clear h2
 go_wp2_with fail
 refine (c3 _).mono ?_
 rintro _ w3 ⟨y3,rfl,hy3,h3⟩
 replace HS:=lH (HS.out.step h3)
 replace HX:=lH (HX.out.since h3)
 replace HBX:=lH (HBX.out.since h3)
 have HA:=lH hy3
 obtain ⟨A3,q3,e3,-,-⟩:=hy3.slice
 dsimp only at e3
 obtain ⟨n1,hn1⟩:∃ n,n = R.length:=⟨_,rfl⟩
 rw [<- hn1] at e3
 subst e3
 clear hy3 h3 hn1
 go_wp2_with fail
 refine (c4 _).mono ?_
 rintro _ w4 ⟨y4,rfl,hy4,h4⟩
 replace HS:=lH (HS.out.step h4)
 replace HX:=lH (HX.out.since h4)
 replace HBX:=lH (HBX.out.since h4)
 replace HA:=lH (HA.out.since h4)
 have HB:=lH hy4
 obtain ⟨A4,q4,e4,-,-⟩:=hy4.slice
 dsimp only at e4
 obtain ⟨n2,hn2⟩:∃ n,n = R.length:=⟨_,rfl⟩
 rw [<- hn2] at e4
 subst e4
 clear hy4 h4 hn2
 go_wp2_with fail
 refine ca.calls0 HA.out HB.out ?_
 intro w5 h5
 replace HS:=lH (HS.out.step h5)
 replace HX:=lH (HX.out.since h5)
 replace HBX:=lH (HBX.out.since h5)
 clear h5 HA HB
 obtain ⟨n0,n1',-⟩:=HBX.out
 rw [Nat.zero_add] at n1'
 go_wp2_with fail
 refine c5.calls0 ?_
 intro w6 h6
 replace HS:=lH (HS.out.step h6)
 replace HX:=lH (HX.out.since h6)
 replace HBX:=lH (HBX.out.since h6)
 clear h6 n0 n1'
 obtain ⟨n0,n1',-⟩:=HBX.out
 rw [Nat.zero_add] at n1'
 go_wp2_with fail
 refine c6.calls0 ?_
 intro w7 h7
 replace HS:=lH (HS.out.step h7)
 clear h7 n0 n1' HBX HX
 go_wp2_with fail
 refine c7.calls0 ?_
 intro w8 h8
 have HD:=lH (At2.box w8 t2 v2 35)
 replace HS:=lH ((HS.out.step h8).alloc (.cells #[.int .i64 t2,.string v2] 35))
 clear h8
 go_wp2_with fail
 refine c8.calls0 ?_
 intro w9 h9
 have HC:=lH (At2.box w9 t2 v2 35)
 have h9':=Since.alloc h9 (.cells #[.int .i64 t2,.string v2] 35)
 replace HS:=lH (HS.out.step h9')
 replace HD:=lH (HD.out.since h9')
 obtain ⟨a0,a1,-⟩:=HD.out
 obtain ⟨b0,b1,-⟩:=HC.out
 rw [Nat.zero_add] at a1 b1
 clear h9 h9'
 go_wp2_with fail
 refine Atf.awake.calls0 ?_
 intro w99 h99
 replace HS:=lH (HS.out.step h99)
 clear h99
 go_wp2_with fail
 go_ret
 exact ⟨rfl,HS.out⟩
theorem walk (w:World) (A:Option Addr) (n c:Nat) (l:List A2) (t:Int) (v s:ByteArray) (hx:AttsS w (.slice A n c) l) (_hn:n = l.length) (_hp:∀ p ∈ l,(Lit.int .i64 p.1).wf = true /\ p.2.size <= maxLen) (_ht:(Lit.int .i64 t).wf = true) (_hv:v.size <= maxLen) (_hs:s.size <= maxLen):Calls Tryz.prog 4 #[.slice A n c,.agg #[.int .i64 t,.string v],.string s] w fun e w' => e = .returned (.bool true) /\ Below w.heap.size w w':=by
 have c0:=few_rd l 60 (by decide) _ rfl
 cases hq:fewB l 60 with
 | false => rw [hq] at c0; exact core_few w A n c l t v s hx c0
 | true =>
   rw [hq] at c0
   by_cases hl:300 < v.size
   · exact core_long w A n c l t v s hx hl c0
   by_cases hl2:1000 < s.size
   · exact core_long2 w A n c l t v s hx (by omega) hl2 c0
   exact core w A n c l t v s hx (by omega) (by omega) c0 _ _ (pack_rd l) (rpack_rd l) (unpV s).1 (unpV s).2 (unpack_u s (by omega)) (runpack_u s (by omega)) _ _ (encode_mk (t,v)) (rencode_mk (t,v)) _ _ _ (decode_mk s (by omega)) (rdecode_mk s (by omega)) (attrs_same _)
theorem own:ownKnob Tryz.prog.godebug = none:=by kernel_rfl
theorem laidOut:laidOutB Tryz.prog = true:=by kernel_rfl
theorem lifted (os:Os) (started:os.Started) (H:Type) (enc:TypeId × Value -> H) :
   ReturnsInHanded {} Tryz.checked os 4 .any (Rows.attrPacksSpec.pre6 enc Tryz.prog Tryz.f4 Rows.attrPacksRow.domain false) (Rows.attrPacksSpec.post enc Tryz.prog Tryz.f4 false true false false):=by
 refine returnsInHanded_of_change (C:=Tryz.checked) own started (by kernel_rfl) Tryz.func4
   (ChangeSpec.witness6 (enc:=enc) (C:=Tryz.checked) false ⟨#[],#[.slice none 0 0,.agg #[.int .i64 0,.string ⟨#[]⟩],.string ⟨#[]⟩],[]⟩ 8 (by kernel_rfl) (by kernel_rfl) (by kernel_rfl) (by kernel_rfl)) ?_
 intro W base args ds gs before hval0 hW hcnd _
 have hval:∀ (j:Nat) t v,Tryz.f4.params[j]? = some t -> args[j]? = some v -> Value.okWide Tryz.prog W .any base t v:=hval0
 have hW':=hW
 obtain ⟨p,q,hA0,hV,rfl,hfz,hnd⟩:=hW
 have hA:DataW.TrodAll enc Tryz.prog W 0 (fun _ => true) true Tryz.f4.params.toList args.toList ds p:=hA0
 rw [Tryz.params4] at hA hval
 obtain ⟨v0,vs0,d0,ds0,p0,q0,hargs,rfl,rfl,h0,r0⟩:=trodAll_cons hA
 obtain ⟨v1,vs1,d1,ds1,p1,q1,rfl,rfl,rfl,h1,r1⟩:=trodAll_cons r0
 obtain ⟨v2,vs2,d2,ds2,p2,q2,rfl,rfl,rfl,h2,r2⟩:=trodAll_cons r1
 obtain ⟨rfl,rfl,rfl⟩:=trodAll_nil r2
 obtain rfl:args = #[v0,v1,v2]:=by cases args; simp_all
 obtain ⟨rfl,rfl⟩:=trodVars_none hV
 obtain ⟨a0,n0,c0,rfl⟩:=okWide_slice Tryz.underlying22 (hval 0 22 v0 rfl rfl)
 have h0k:=h0
 obtain ⟨fuel0,hf0⟩:=h0
 have hlt0:∀ x ∈ p0,x.block < W.heap.size:=fun x hx => by simpa using hW'.lt x (by simp [hx])
 obtain ⟨x0,lA0,lN0,lX0⟩:=atts_arg hf0 hlt0
 obtain ⟨c1_0,c1_1,y1_0,y1_1,m1,rfl,rfl,rfl,hy1_0,hy1_1⟩:=Go.Joins.open_agg2 Tryz.underlying35 (by kernel_rfl) (by kernel_rfl) (hval 1 35 v1 rfl rfl) h1
 obtain ⟨a1_0,e1_0,rfl,w1_0⟩:=DataW.trod_int Tryz.underlying3 hy1_0
 simp only [List.cons.injEq,and_true] at e1_0
 subst e1_0
 obtain ⟨a1_1,e1_1,rfl,w1_1⟩:=DataW.trod_string Tryz.underlying9 hy1_1
 simp only [List.cons.injEq,and_true] at e1_1
 subst e1_1
 obtain ⟨a2,rfl,rfl,rfl,w2⟩:=Go.ChangeMaps.open_string Tryz.underlying9 (hval 2 9 v2 rfl rfl) h2
 clear hA0 hval0
 simp only [List.append_nil] at hW'
 refine (walk W a0 n0 c0 x0 a1_0 a1_1 a2 lA0 lN0 lX0 w1_0 w1_1 w2).mono fun e W' ⟨he,hg⟩ => ?_
 subst he
 exact ⟨_,rfl,_,_,_,_,_,[],hW',(trodAll_cons_mk (shut_bool Tryz.underlying4 _) trodAll_mk0),(trodAll_cons_mk (Below.trod laidOut (by kernel_rfl) (of_decide_eq_true (by kernel_rfl)) h0k hg hlt0) (trodAll_cons_mk (Go.Joins.shut_agg2 (y0:=(.lit (.int .i64 a1_0),[])) (y1:=(.lit (.string a1_1.data.toList),[])) Tryz.underlying35 (by kernel_rfl) (by kernel_rfl) (Go.Joins.field_of_Trod (shut_int Tryz.underlying3 w1_0) rfl) (Go.Joins.field_of_Trod (Go.ChangeMaps.shut_string Tryz.underlying9 w1_1) rfl)) (trodAll_cons_mk (Go.ChangeMaps.shut_string Tryz.underlying9 w2) trodAll_mk0))),rfl,hg.frame _,fun h => by cases h⟩
theorem over:Rows.attrPacksRow.holds Tryz.pinned (OpenSpec.ofChange Rows.attrPacksSpec) :=
 OpenClaim.holds_of_wide 4 Tryz.f4 rfl rfl rfl rfl rfl rfl rfl ⟨rfl,rfl,rfl,rfl,rfl⟩ rfl rfl rfl rfl rfl (by kernel_rfl) Tryz.func4 (by kernel_rfl)
   (of_decide_eq_true (by kernel_rfl)) (by unfold Func.isWrapper; first | (rw [if_pos (by decide +kernel)]; kernel_rfl) | (rw [if_neg (by decide +kernel)]; exact ⟨rfl,rfl⟩))
   (fun os started H enc _ => lifted os started H enc)
theorem proved:Rows.AttrPacksSaid :=
 over
end Go.Proofs.YtpanhhjkecebkaaGreat.attrPacks
