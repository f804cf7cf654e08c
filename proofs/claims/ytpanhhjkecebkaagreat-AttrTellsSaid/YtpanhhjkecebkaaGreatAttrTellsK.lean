/- The law AttrTells: any attributes may be, are got, set and dropped as the document says; no conditions. -/
import Derived.Test.YtpanhhjkecebkaaGreatRows
import Derived.WalkKit
import Derived.ProofKit
import Derived.OpenShut
import Derived.Lib.Hide
import Derived.Test.YtpanhhjkecebkaaGreatAq45
import Derived.Test.YtpanhhjkecebkaaGreatAq16
set_option maxRecDepth 100000
namespace Go.Proofs.YtpanhhjkecebkaaGreat.attrTells
open Go.ChangeShapes Go.WideShapes Go.ChangeAt Go.RowKit
open Att Atf Atm
theorem core_few (w:World) (A:Option Addr) (n c:Nat) (l:List A2) (t:Int) (v:ByteArray) (hx:AttsS w (.slice A n c) l) (c0:RdA 7 l (fun x => #[x,.int .i64 60]) (.bool false)):Calls Tryz.prog 3 #[.slice A n c,.int .i64 t,.string v] w fun e w' => e = .returned (.bool true) /\ Since w w':=by
 have HX:=lH hx
 have HS:=lH (Since.refl w)
 clear hx
 go_enter Tryz.func3,Tryz.ntmps3
 go_wp2_with fail
 refine c0.calls0 HX.out ?_
 intro w0 h0
 replace HS:=lH (HS.out.step h0)
 replace HX:=lH (HX.out.since h0)
 clear h0
 go_wp2_with fail
 refine Atf.awake.calls0 ?_
 intro w9 h9
 replace HS:=lH (HS.out.step h9)
 clear h9
 go_wp2_with fail
 go_ret
 exact ⟨rfl,HS.out⟩
theorem core_long (w:World) (A:Option Addr) (n c:Nat) (l:List A2) (t:Int) (v:ByteArray) (hx:AttsS w (.slice A n c) l) (hv:300 < v.size) (c0:RdA 7 l (fun x => #[x,.int .i64 60]) (.bool true)):Calls Tryz.prog 3 #[.slice A n c,.int .i64 t,.string v] w fun e w' => e = .returned (.bool true) /\ Since w w':=by
 have q1:decide ((300:Int) < (v.size:Int)) = true:=decide_eq_true (by omega)
 clear hv
 have HX:=lH hx
 have HS:=lH (Since.refl w)
 clear hx
 go_enter Tryz.func3,Tryz.ntmps3
 go_wp2_with fail
 refine c0.calls0 HX.out ?_
 intro w0 h0
 replace HS:=lH (HS.out.step h0)
 replace HX:=lH (HX.out.since h0)
 clear h0
 go_wp2_with fail
 refine Atf.awake.calls0 ?_
 intro w9 h9
 replace HS:=lH (HS.out.step h9)
 clear h9
 go_wp2_with fail
 go_ret
 exact ⟨rfl,HS.out⟩
set_option maxHeartbeats 8000000 in
theorem core (w:World) (A:Option Addr) (n c:Nat) (l:List A2) (t:Int) (v:ByteArray) (hx:AttsS w (.slice A n c) l) (hv:v.size <= 300) (c0:RdA 7 l (fun x => #[x,.int .i64 60]) (.bool true)) (S:ByteArray) (q:Bool) (c1:RdA 9 l (fun x => #[x,.int .i64 t]) (.tuple #[.string S,.bool q])) (c2:RdA 10 l (fun x => #[x,.int .i64 t]) (.tuple #[.string S,.bool q]))
   (R1:List A2) (E1:Int) (c3:AtR 11 l (fun x => #[x,.int .i64 t,.string v]) (R1,E1)) (c4:AtR 12 l (fun x => #[x,.int .i64 t,.string v]) (R1,E1)) (R2:List A2) (E2:Int) (c5:AtR 13 l (fun x => #[x,.int .i64 t]) (R2,E2)) (c6:AtR 14 l (fun x => #[x,.int .i64 t]) (R2,E2))
   (E:Int) (c7:RdA 15 l (fun x => #[x]) (.int .i64 E)) (c8:RdA 16 l (fun x => #[x]) (.int .i64 E)) (ca:EqA 17 R1 R1 true) (cb:EqA 17 R2 R2 true) :
   Calls Tryz.prog 3 #[.slice A n c,.int .i64 t,.string v] w fun e w' => e = .returned (.bool true) /\ Since w w':=by
 have q1:decide ((300:Int) < (v.size:Int)) = false:=decide_eq_false (by omega)
 have t1:(S.toList == S.toList) = true:=beq_self_eq_true _
 have t2:(E == E) = true:=beq_self_eq_true _
 have t3:(E1 == E1) = true:=beq_self_eq_true _
 have t4:(E2 == E2) = true:=beq_self_eq_true _
 have t5:(q == q) = true:=by cases q <;> rfl
 clear hv
 have HX:=lH hx
 have HS:=lH (Since.refl w)
 clear hx
 go_enter Tryz.func3,Tryz.ntmps3
 go_wp2_with fail
 refine c0.calls0 HX.out ?_
 intro w0 h0
 replace HS:=lH (HS.out.step h0)
 replace HX:=lH (HX.out.since h0)
 clear h0
 go_wp2_with fail
 refine c1.calls0 HX.out ?_
 intro w1 h1
 replace HS:=lH (HS.out.step h1)
 replace HX:=lH (HX.out.since h1)
 clear h1
 go_wp2_with fail
 refine c2.calls0 HX.out ?_
 intro w2 h2
 replace HS:=lH (HS.out.step h2)
 replace HX:=lH (HX.out.since h2)
 clear h2
 go_wp2_with fail
 refine (c3 _ _ HX.out).mono ?_
 rintro _ w3 ⟨y3,rfl,hy3,h3⟩
 replace HS:=lH (HS.out.step h3)
 replace HX:=lH (HX.out.since h3)
 have HA:=lH hy3
 obtain ⟨A3,q3,e3,-,-⟩:=hy3.slice
 dsimp only at e3
 obtain ⟨n1,hn1⟩:∃ n,n = R1.length:=⟨_,rfl⟩
 rw [<- hn1] at e3
 subst e3
 clear hy3 h3 hn1
 go_wp2_with fail
 refine (c4 _ _ HX.out).mono ?_
 rintro _ w4 ⟨y4,rfl,hy4,h4⟩
 replace HS:=lH (HS.out.step h4)
 replace HX:=lH (HX.out.since h4)
 replace HA:=lH (HA.out.since h4)
 have HB:=lH hy4
 obtain ⟨A4,q4,e4,-,-⟩:=hy4.slice
 dsimp only at e4
 obtain ⟨n2,hn2⟩:∃ n,n = R1.length:=⟨_,rfl⟩
 rw [<- hn2] at e4
 subst e4
 clear hy4 h4 hn2
 go_wp2_with fail
 refine (c5 _ _ HX.out).mono ?_
 rintro _ w5 ⟨y5,rfl,hy5,h5⟩
 replace HS:=lH (HS.out.step h5)
 replace HX:=lH (HX.out.since h5)
 replace HA:=lH (HA.out.since h5)
 replace HB:=lH (HB.out.since h5)
 have HC:=lH hy5
 obtain ⟨A5,q5,e5,-,-⟩:=hy5.slice
 dsimp only at e5
 obtain ⟨n3,hn3⟩:∃ n,n = R2.length:=⟨_,rfl⟩
 rw [<- hn3] at e5
 subst e5
 clear hy5 h5 hn3
 go_wp2_with fail
 refine (c6 _ _ HX.out).mono ?_
 rintro _ w6 ⟨y6,rfl,hy6,h6⟩
 replace HS:=lH (HS.out.step h6)
 replace HX:=lH (HX.out.since h6)
 replace HA:=lH (HA.out.since h6)
 replace HB:=lH (HB.out.since h6)
 replace HC:=lH (HC.out.since h6)
 have HD:=lH hy6
 obtain ⟨A6,q6,e6,-,-⟩:=hy6.slice
 dsimp only at e6
 obtain ⟨n4,hn4⟩:∃ n,n = R2.length:=⟨_,rfl⟩
 rw [<- hn4] at e6
 subst e6
 clear hy6 h6 hn4
 go_wp2_with fail
 refine c7.calls0 HX.out ?_
 intro w7 h7
 replace HS:=lH (HS.out.step h7)
 replace HX:=lH (HX.out.since h7)
 replace HA:=lH (HA.out.since h7)
 replace HB:=lH (HB.out.since h7)
 replace HC:=lH (HC.out.since h7)
 replace HD:=lH (HD.out.since h7)
 clear h7
 go_wp2_with fail
 refine c8.calls0 HX.out ?_
 intro w8 h8
 replace HS:=lH (HS.out.step h8)
 replace HX:=lH (HX.out.since h8)
 replace HA:=lH (HA.out.since h8)
 replace HB:=lH (HB.out.since h8)
 replace HC:=lH (HC.out.since h8)
 replace HD:=lH (HD.out.since h8)
 clear h8
 go_wp2_with fail
 refine ca.calls0 HA.out HB.out ?_
 intro wa ha
 replace HS:=lH (HS.out.step ha)
 replace HC:=lH (HC.out.since ha)
 replace HD:=lH (HD.out.since ha)
 clear ha HA HB
 go_wp2_with fail
 refine cb.calls0 HC.out HD.out ?_
 intro wb hb
 replace HS:=lH (HS.out.step hb)
 clear hb HC HD
 go_wp2_with fail
 refine Atf.awake.calls0 ?_
 intro w9 h9
 replace HS:=lH (HS.out.step h9)
 clear h9
 go_wp2_with fail
 go_ret
 exact ⟨rfl,HS.out⟩
theorem walk (w:World) (A:Option Addr) (n c:Nat) (l:List A2) (t:Int) (v:ByteArray) (hx:AttsS w (.slice A n c) l) (_hn:n = l.length) (_hp:∀ p ∈ l,(Lit.int .i64 p.1).wf = true /\ p.2.size <= maxLen) (_ht:(Lit.int .i64 t).wf = true) (_hv:v.size <= maxLen):Calls Tryz.prog 3 #[.slice A n c,.int .i64 t,.string v] w fun e w' => e = .returned (.bool true) /\ Below w.heap.size w w':=by
 have c0:=few_rd l 60 (by decide) _ rfl
 cases hq:fewB l 60 with
 | false => rw [hq] at c0; exact core_few w A n c l t v hx c0
 | true =>
   rw [hq] at c0
   by_cases hl:300 < v.size
   · exact core_long w A n c l t v hx hl c0
   have h1:=(fewB_spec l 60 hq).1
   exact core w A n c l t v hx (by omega) c0 _ _ (get_rd l t) (rget_rd l t) _ _ (set_mk l t v (by omega) _ rfl) (rset_mk l t v (by omega) _ rfl) _ _ (drop_mk l t (by omega) _ rfl) (rdrop_mk l t (by omega) _ rfl) _ (check_rd l _ rfl) (rcheck_rd l _ rfl) (attrs_same _) (attrs_same _)
theorem own:ownKnob Tryz.prog.godebug = none:=by kernel_rfl
theorem laidOut:laidOutB Tryz.prog = true:=by kernel_rfl
theorem lifted (os:Os) (started:os.Started) (H:Type) (enc:TypeId × Value -> H) :
   ReturnsInHanded {} Tryz.checked os 3 .any (Rows.attrTellsSpec.pre6 enc Tryz.prog Tryz.f3 Rows.attrTellsRow.domain false) (Rows.attrTellsSpec.post enc Tryz.prog Tryz.f3 false true false false):=by
 refine returnsInHanded_of_change (C:=Tryz.checked) own started (by kernel_rfl) Tryz.func3
   (ChangeSpec.witness6 (enc:=enc) (C:=Tryz.checked) false ⟨#[],#[.slice none 0 0,.int .i64 0,.string ⟨#[]⟩],[]⟩ 8 (by kernel_rfl) (by kernel_rfl) (by kernel_rfl) (by kernel_rfl)) ?_
 intro W base args ds gs before hval0 hW hcnd _
 have hval:∀ (j:Nat) t v,Tryz.f3.params[j]? = some t -> args[j]? = some v -> Value.okWide Tryz.prog W .any base t v:=hval0
 have hW':=hW
 obtain ⟨p,q,hA0,hV,rfl,hfz,hnd⟩:=hW
 have hA:DataW.TrodAll enc Tryz.prog W 0 (fun _ => true) true Tryz.f3.params.toList args.toList ds p:=hA0
 rw [Tryz.params3] at hA hval
 obtain ⟨v0,vs0,d0,ds0,p0,q0,hargs,rfl,rfl,h0,r0⟩:=trodAll_cons hA
 obtain ⟨v1,vs1,d1,ds1,p1,q1,rfl,rfl,rfl,h1,r1⟩:=trodAll_cons r0
 obtain ⟨v2,vs2,d2,ds2,p2,q2,rfl,rfl,rfl,h2,r2⟩:=trodAll_cons r1
 obtain ⟨rfl,rfl,rfl⟩:=trodAll_nil r2
 obtain rfl:args = #[v0,v1,v2]:=by cases args; simp_all
 obtain ⟨rfl,rfl⟩:=trodVars_none hV
 obtain ⟨a0,n0,c0,rfl⟩:=okWide_slice Tryz.underlying22 (hval 0 22 v0 rfl rfl)
 have h0k:=h0
 obtain ⟨fuel0,hf0⟩:=h0
 have hlt0:∀ x ∈ p0,x.block < W.heap.size:=fun x hx => by simpa using hW'.lt x (by simp [hx])
 obtain ⟨x0,lA0,lN0,lX0⟩:=atts_arg hf0 hlt0
 obtain ⟨a1,rfl,rfl,rfl,w1⟩:=open_int Tryz.underlying3 (hval 1 3 v1 rfl rfl) h1
 obtain ⟨a2,rfl,rfl,rfl,w2⟩:=Go.ChangeMaps.open_string Tryz.underlying9 (hval 2 9 v2 rfl rfl) h2
 clear hA0 hval0
 simp only [List.append_nil] at hW'
 refine (walk W a0 n0 c0 x0 a1 a2 lA0 lN0 lX0 w1 w2).mono fun e W' ⟨he,hg⟩ => ?_
 subst he
 exact ⟨_,rfl,_,_,_,_,_,[],hW',(trodAll_cons_mk (shut_bool Tryz.underlying4 _) trodAll_mk0),(trodAll_cons_mk (Below.trod laidOut (by kernel_rfl) (of_decide_eq_true (by kernel_rfl)) h0k hg hlt0) (trodAll_cons_mk (shut_int Tryz.underlying3 w1) (trodAll_cons_mk (Go.ChangeMaps.shut_string Tryz.underlying9 w2) trodAll_mk0))),rfl,hg.frame _,fun h => by cases h⟩
theorem over:Rows.attrTellsRow.holds Tryz.pinned (OpenSpec.ofChange Rows.attrTellsSpec) :=
 OpenClaim.holds_of_wide 3 Tryz.f3 rfl rfl rfl rfl rfl rfl rfl ⟨rfl,rfl,rfl,rfl,rfl⟩ rfl rfl rfl rfl rfl (by kernel_rfl) Tryz.func3 (by kernel_rfl)
   (of_decide_eq_true (by kernel_rfl)) (by unfold Func.isWrapper; first | (rw [if_pos (by decide +kernel)]; kernel_rfl) | (rw [if_neg (by decide +kernel)]; exact ⟨rfl,rfl⟩))
   (fun os started H enc _ => lifted os started H enc)
theorem proved:Rows.AttrTellsSaid :=
 over
end Go.Proofs.YtpanhhjkecebkaaGreat.attrTells
