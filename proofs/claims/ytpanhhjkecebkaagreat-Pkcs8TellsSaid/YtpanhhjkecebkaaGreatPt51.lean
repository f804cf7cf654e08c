import Derived.Test.YtpanhhjkecebkaaGreatPt46
import Derived.Test.YtpanhhjkecebkaaGreatPt44
import Derived.Test.YtpanhhjkecebkaaGreatPt45
set_option maxRecDepth 100000
namespace Go.Proofs.YtpanhhjkecebkaaGreat
open Go.RowKit
namespace Pk
open Tlv Tree Strs Rw
set_option maxHeartbeats 16000000 in
theorem proper4_8 (N0 N1 N2 N3:List Nd) (y0 y1 y2 y3:Nd) (hy0:N0[0]? = some y0) (hy1:N1[0]? = some y1) (hy2:N2[0]? = some y2) (hy3:N3[0]? = some y3) (c3:Mak 66 #[.int .i64 0] (.string ⟨#[0]⟩)) (q1:true = tagsB y0.c y0.t 0 [2]) (t1:(y0.d.toList == [0]) = true) (q2:true = tagsB y1.c y1.t 0 [16]) (h5:N1.length = 3) (y4 y5:Nd) (hy4:N1[1]? = some y4) (hy5:N1[2]? = some y5) (q3:true = tagsB y4.c y4.t 0 [6]) (q4:true = tagsB y5.c y5.t 0 [6,5]) (q5:true = tagsB y2.c y2.t 0 [4]) (q6:false = tagsB y3.c y3.t 2 [0]):RdQ 70 [N0,N1,N2,N3] false:=by
 have Q1:=lH q1;have Q2:=lH q2;have H5:=lH h5;have Q3:=lH q3;have Q4:=lH q4;have Q5:=lH q5;have Q6:=lH q6;clear q1 q2 h5 q3 q4 q5 q6;intro w P hP;obtain ⟨bp,op,cp,e1,lp,hp⟩:=hP.form (by show 0 < 4; omega);replace e1:P = .slice (some ⟨bp,op,none⟩) 4 cp:=e1;subst e1;have HP:=lH hp;clear hP hp;obtain ⟨z0,m0,T0⟩:=HP.out 0 N0 rfl;obtain ⟨z1,m1,T1⟩:=HP.out 1 N1 rfl;obtain ⟨z2,m2,T2⟩:=HP.out 2 N2 rfl;obtain ⟨z3,m3,T3⟩:=HP.out 3 N3 rfl;rw [Nat.add_zero] at m0;replace T0:=lH T0;replace T1:=lH T1;replace T2:=lH T2;replace T3:=lH T3;obtain ⟨b0,o0,d0,f0,-,-,l0,g0⟩:=T0.out.form (List.getElem?_eq_some_iff.1 hy0).1;obtain ⟨k0,-,-,-,g4,-⟩:=g0 0 y0 hy0;have F0:=lH (fst_tree T0.out hy0);have F1:=lH (fst_tree T1.out hy1);have F2:=lH (fst_tree T2.out hy2);have F3:=lH (fst_tree T3.out hy3);obtain ⟨p0,hp0⟩:∃ n,n = N0.length:=⟨_,rfl⟩
 have x0:(0:Int) < (p0:Int):=by have:=(List.getElem?_eq_some_iff.1 hy0).1; omega
 have x00:0 < p0:=by omega
 rw [<- hp0] at f0;subst f0;obtain ⟨A1,d1,e1,-,-⟩:=T1.out.slice;obtain ⟨p1,hp1⟩:∃ n,n = N1.length:=⟨_,rfl⟩
 rw [<- hp1] at e1;subst e1;have HP1:=lH hp1;obtain ⟨A3,d3,e3,-,-⟩:=T3.out.slice;obtain ⟨p3,hp3⟩:∃ n,n = N3.length:=⟨_,rfl⟩
 rw [<- hp3] at e3;subst e3;have HP3:=lH hp3;have HPF:=lH (show PF w b0 o0 y0.d bp (op + 3) (.slice A3 p3 d3) from ⟨l0,by rw [Nat.zero_mul] at g4; exact g4,lp,m3⟩);clear HP g0 g4 l0 lp hp0 hp1 hp3;obtain rfl:p1 = 3:=by rw [HP1.out]; exact H5.out
 obtain ⟨b1,o1,d1x,f1,-,-,-,-⟩:=T1.out.form (by rw [<- HP1.out]; omega);rw [<- HP1.out] at f1;obtain ⟨rfl,-,-⟩:=Value.slice.inj f1;obtain ⟨A4,g1,g2⟩:=tail_slice T1.out HP1.out (by omega);have hsl:∀ W,(Instr.slice 75 (.slice (some ⟨b1,o1,none⟩) 3 d1) (some (.int .i64 1)) none none).run Tryz.prog W = .ok (.slice A4 2 (d1 - 1)) W:=g2;have F4:=lH (show Fst w (.slice A4 2 (d1 - 1)) y4.c y4.t from fst_tree g1 (by rw [List.getElem?_drop]; exact hy4));clear g1 g2;obtain ⟨A5,g1,g2⟩:=tail_slice2 T1.out HP1.out (by omega);have hsl2:∀ W,(Instr.slice 75 (.slice (some ⟨b1,o1,none⟩) 3 d1) (some (.int .i64 2)) none none).run Tryz.prog W = .ok (.slice A5 1 (d1 - 2)) W:=g2;have F5:=lH (show Fst w (.slice A5 1 (d1 - 2)) y5.c y5.t from fst_tree g1 (by rw [List.getElem?_drop]; exact hy5));clear f1 g1 g2
 go_enter Tryz.func70,Tryz.ntmps70
 go_wp2_with fail
 go_quiet (fail)
 have HB:Hid (Since w (w.drewN nq)):=lH (Att.belowN w nq);go_wp2_with fail;refine RegW.start (fun W' => Hid (Since w W') /\ W'.cell? ⟨b0,o0 + 3,none⟩ = some (.string y0.d) /\ W'.cell? ⟨bp,op + 3,none⟩ = some (.slice A3 p3 d3)) 57 (by kernel_rfl) ⟨lH (HB.out.step (drew_since2 _)),HPF.out.at_ (HB.out.step (drew_since2 _))⟩ (fun hHeld => ?_);replace HB:=lH (HB.out.step (drew_since2 _));clear m0 m1 m2;refine RegW.tk 0 rfl ?_;try simp only [RegW.p]
 refine RegW.only (i:=1) rfl (by kernel_rfl) (fun K hK => ?_);go_simp;refine hK.out _ _ ⟨lH (HB.out.alloc (.cells #[.int .i64 2] 3)),HPF.out.at_ (HB.out.alloc _)⟩ (fun hHeld => ?_);replace HB:=lH (HB.out.alloc (.cells #[.int .i64 2] 3));clear hK K;try simp only [RegW.p]
 refine RegW.only (i:=2) rfl (by kernel_rfl) (fun K hK => ?_);go_simp;go_at_call 69;refine (is_rd _ _ 0 [2] (by decide) _ Q1.out _ _ _ (F0.out.since HB.out) (tags_lit _ 2)).mono ?_;rintro _ w3 ⟨rfl,h3⟩;replace HB:=lH (HB.out.step h3);clear h3;refine hK.out _ _ ⟨HB,HPF.out.at_ HB.out⟩ (fun hHeld => ?_);clear hK K;try simp only [RegW.p]
 refine RegW.tk 3 rfl ?_;try simp only [RegW.p]
 refine RegW.tk 4 rfl ?_;try simp only [RegW.p]
 refine RegW.tk 5 rfl ?_;try simp only [RegW.p]
 refine RegW.tk 6 rfl ?_;try simp only [RegW.p]
 refine RegW.tk 7 rfl ?_;try simp only [RegW.p]
 refine RegW.only (i:=8) rfl (by kernel_rfl) (fun K hK => ?_);go_simp;go_at_call 66;refine c3.calls0 ?_;intro w4 h4;replace HB:=lH (HB.out.step h4);clear h4;refine hK.out _ _ ⟨HB,HPF.out.at_ HB.out⟩ (fun hHeld => ?_);clear hK K;try simp only [RegW.p]
 refine RegW.tk 9 rfl ?_;try simp only [RegW.p]
 refine RegW.tk 10 rfl ?_;try simp only [RegW.p]
 refine RegW.tk 11 rfl ?_;try simp only [RegW.p]
 refine RegW.tk 12 rfl ?_;try simp only [RegW.p]
 refine RegW.only (i:=13) rfl (by kernel_rfl) (fun K hK => ?_);go_simp;refine hK.out _ _ ⟨lH (HB.out.alloc (.cells #[.int .i64 16] 3)),HPF.out.at_ (HB.out.alloc _)⟩ (fun hHeld => ?_);replace HB:=lH (HB.out.alloc (.cells #[.int .i64 16] 3));clear hK K;try simp only [RegW.p]
 refine RegW.only (i:=14) rfl (by kernel_rfl) (fun K hK => ?_);go_simp;go_at_call 69;refine (is_rd _ _ 0 [16] (by decide) _ Q2.out _ _ _ (F1.out.since HB.out) (tags_lit _ 16)).mono ?_;rintro _ w5 ⟨rfl,h5⟩;replace HB:=lH (HB.out.step h5);clear h5;refine hK.out _ _ ⟨HB,HPF.out.at_ HB.out⟩ (fun hHeld => ?_);clear hK K;try simp only [RegW.p]
 refine RegW.tk 15 rfl ?_;try simp only [RegW.p]
 refine RegW.tk 16 rfl ?_;try simp only [RegW.p]
 refine RegW.tk 17 rfl ?_;try simp only [RegW.p]
 refine RegW.tk 18 rfl ?_;try simp only [RegW.p]
 refine RegW.tk 19 rfl ?_;try simp only [RegW.p]
 refine RegW.tk 20 rfl ?_;try simp only [RegW.p]
 refine RegW.tk 21 rfl ?_;try simp only [RegW.p]
 refine RegW.tk 22 rfl ?_;try simp only [RegW.p]
 refine RegW.tk 23 rfl ?_;try simp only [RegW.p]
 refine RegW.only (i:=24) rfl (by kernel_rfl) (fun K hK => ?_);go_simp;refine hK.out _ _ ⟨lH (HB.out.alloc (.cells #[.int .i64 6] 3)),HPF.out.at_ (HB.out.alloc _)⟩ (fun hHeld => ?_);replace HB:=lH (HB.out.alloc (.cells #[.int .i64 6] 3));clear hK K;try simp only [RegW.p]
 refine RegW.only (i:=25) rfl (by kernel_rfl) (fun K hK => ?_);go_simp;go_at_call 69;refine (is_rd _ _ 0 [6] (by decide) _ Q3.out _ _ _ (F4.out.since HB.out) (tags_lit _ 6)).mono ?_;rintro _ w6 ⟨rfl,h6⟩;replace HB:=lH (HB.out.step h6);clear h6;refine hK.out _ _ ⟨HB,HPF.out.at_ HB.out⟩ (fun hHeld => ?_);clear hK K;try simp only [RegW.p]
 refine RegW.tk 26 rfl ?_;try simp only [RegW.p]
 refine RegW.tk 27 rfl ?_;try simp only [RegW.p]
 refine RegW.tk 28 rfl ?_;try simp only [RegW.p]
 refine RegW.tk 29 rfl ?_;try simp only [RegW.p]
 refine RegW.only (i:=30) rfl (by kernel_rfl) (fun K hK => ?_);go_simp;refine hK.out _ _ ⟨lH (HB.out.alloc (.cells #[.int .i64 6,.int .i64 5] 3)),HPF.out.at_ (HB.out.alloc _)⟩ (fun hHeld => ?_);replace HB:=lH (HB.out.alloc (.cells #[.int .i64 6,.int .i64 5] 3));clear hK K;try simp only [RegW.p]
 refine RegW.only (i:=31) rfl (by kernel_rfl) (fun K hK => ?_);go_simp;go_at_call 69;refine (is_rd _ _ 0 [6,5] (by decide) _ Q4.out _ _ _ (F5.out.since HB.out) (tags_lit2 _ 6 5)).mono ?_;rintro _ w7 ⟨rfl,h7⟩;replace HB:=lH (HB.out.step h7);clear h7;refine hK.out _ _ ⟨HB,HPF.out.at_ HB.out⟩ (fun hHeld => ?_);clear hK K;try simp only [RegW.p]
 refine RegW.tk 32 rfl ?_;try simp only [RegW.p]
 refine RegW.tk 33 rfl ?_;try simp only [RegW.p]
 refine RegW.tk 34 rfl ?_;try simp only [RegW.p]
 refine RegW.only (i:=35) rfl (by kernel_rfl) (fun K hK => ?_);go_simp;refine hK.out _ _ ⟨lH (HB.out.alloc (.cells #[.int .i64 4] 3)),HPF.out.at_ (HB.out.alloc _)⟩ (fun hHeld => ?_);replace HB:=lH (HB.out.alloc (.cells #[.int .i64 4] 3));clear hK K;try simp only [RegW.p]
 refine RegW.only (i:=36) rfl (by kernel_rfl) (fun K hK => ?_);go_simp;go_at_call 69;refine (is_rd _ _ 0 [4] (by decide) _ Q5.out _ _ _ (F2.out.since HB.out) (tags_lit _ 4)).mono ?_;rintro _ w8 ⟨rfl,h8⟩;replace HB:=lH (HB.out.step h8);clear h8;refine hK.out _ _ ⟨HB,HPF.out.at_ HB.out⟩ (fun hHeld => ?_);clear hK K;try simp only [RegW.p]
 refine RegW.tk 37 rfl ?_;try simp only [RegW.p]
 refine RegW.tk 38 rfl ?_;try simp only [RegW.p]
 refine RegW.tk 39 rfl ?_;try simp only [RegW.p]
 refine RegW.tk 40 rfl ?_;try simp only [RegW.p]
 refine RegW.tk 41 rfl ?_;try simp only [RegW.p]
 refine RegW.tk 42 rfl ?_;try simp only [RegW.p]
 refine RegW.tk 43 rfl ?_;try simp only [RegW.p]
 refine RegW.tk 44 rfl ?_;try simp only [RegW.p]
 refine RegW.tk 45 rfl ?_;try simp only [RegW.p]
 refine RegW.only (i:=46) rfl (by kernel_rfl) (fun K hK => ?_);go_simp;refine hK.out _ _ ⟨lH (HB.out.alloc (.cells #[.int .i64 0] 3)),HPF.out.at_ (HB.out.alloc _)⟩ (fun hHeld => ?_);replace HB:=lH (HB.out.alloc (.cells #[.int .i64 0] 3));clear hK K;try simp only [RegW.p]
 refine RegW.only (i:=47) rfl (by kernel_rfl) (fun K hK => ?_);go_simp;go_at_call 69;refine (is_rd _ _ 2 [0] (by decide) _ Q6.out _ _ _ (F3.out.since HB.out) (tags_lit _ 0)).mono ?_;rintro _ w9 ⟨rfl,h9⟩;replace HB:=lH (HB.out.step h9);clear h9;refine hK.out _ _ ⟨HB,HPF.out.at_ HB.out⟩ (fun hHeld => ?_);clear hK K;try simp only [RegW.p]
 refine RegW.tk 48 rfl ?_;try simp only [RegW.p]
 refine RegW.tu 49 rfl (RegW.tu 50 rfl (RegW.tu 51 rfl (RegW.tu 52 rfl (RegW.tu 53 rfl ?_))));try simp only [RegW.p]
 refine RegW.tk 54 rfl ?_;try simp only [RegW.p]
 refine RegW.tk 55 rfl ?_;try simp only [RegW.p]
 refine RegW.tk 56 rfl ?_;try simp only [RegW.p]
 refine RegW.last rfl (by kernel_rfl) (by kernel_rfl) ?_;clear hHeld;go_wp2_with fail;go_ret;exact ⟨rfl,HB.out⟩
set_option maxHeartbeats 16000000 in
theorem proper4_9 (N0 N1 N2 N3:List Nd) (y0 y1 y2 y3:Nd) (hy0:N0[0]? = some y0) (hy1:N1[0]? = some y1) (hy2:N2[0]? = some y2) (hy3:N3[0]? = some y3) (c3:Mak 66 #[.int .i64 0] (.string ⟨#[0]⟩)) (q1:true = tagsB y0.c y0.t 0 [2]) (t1:(y0.d.toList == [0]) = true) (q2:true = tagsB y1.c y1.t 0 [16]) (h5:N1.length = 3) (y4 y5:Nd) (hy4:N1[1]? = some y4) (hy5:N1[2]? = some y5) (q3:true = tagsB y4.c y4.t 0 [6]) (q4:true = tagsB y5.c y5.t 0 [6,5]) (q5:true = tagsB y2.c y2.t 0 [4]) (q6:true = tagsB y3.c y3.t 2 [0]) (q9:Bool) (h9:q9 = decide (1 < (N3.length:Int))):RdQ 70 [N0,N1,N2,N3] q9:=by
 have Q1:=lH q1;have Q2:=lH q2;have H5:=lH h5;have Q3:=lH q3;have Q4:=lH q4;have Q5:=lH q5;have Q6:=lH q6;clear q1 q2 h5 q3 q4 q5 q6;have H9:=lH h9;clear h9;intro w P hP;obtain ⟨bp,op,cp,e1,lp,hp⟩:=hP.form (by show 0 < 4; omega);replace e1:P = .slice (some ⟨bp,op,none⟩) 4 cp:=e1;subst e1;have HP:=lH hp;clear hP hp;obtain ⟨z0,m0,T0⟩:=HP.out 0 N0 rfl;obtain ⟨z1,m1,T1⟩:=HP.out 1 N1 rfl;obtain ⟨z2,m2,T2⟩:=HP.out 2 N2 rfl;obtain ⟨z3,m3,T3⟩:=HP.out 3 N3 rfl;rw [Nat.add_zero] at m0;replace T0:=lH T0;replace T1:=lH T1;replace T2:=lH T2;replace T3:=lH T3;obtain ⟨b0,o0,d0,f0,-,-,l0,g0⟩:=T0.out.form (List.getElem?_eq_some_iff.1 hy0).1;obtain ⟨k0,-,-,-,g4,-⟩:=g0 0 y0 hy0;have F0:=lH (fst_tree T0.out hy0);have F1:=lH (fst_tree T1.out hy1);have F2:=lH (fst_tree T2.out hy2);have F3:=lH (fst_tree T3.out hy3);obtain ⟨p0,hp0⟩:∃ n,n = N0.length:=⟨_,rfl⟩
 have x0:(0:Int) < (p0:Int):=by have:=(List.getElem?_eq_some_iff.1 hy0).1; omega
 have x00:0 < p0:=by omega
 rw [<- hp0] at f0;subst f0;obtain ⟨A1,d1,e1,-,-⟩:=T1.out.slice;obtain ⟨p1,hp1⟩:∃ n,n = N1.length:=⟨_,rfl⟩
 rw [<- hp1] at e1;subst e1;have HP1:=lH hp1;obtain ⟨A3,d3,e3,-,-⟩:=T3.out.slice;obtain ⟨p3,hp3⟩:∃ n,n = N3.length:=⟨_,rfl⟩
 rw [<- hp3] at e3;subst e3;have HP3:=lH hp3;have HPF:=lH (show PF w b0 o0 y0.d bp (op + 3) (.slice A3 p3 d3) from ⟨l0,by rw [Nat.zero_mul] at g4; exact g4,lp,m3⟩);clear HP g0 g4 l0 lp hp0 hp1 hp3;obtain rfl:p1 = 3:=by rw [HP1.out]; exact H5.out
 obtain ⟨b1,o1,d1x,f1,-,-,-,-⟩:=T1.out.form (by rw [<- HP1.out]; omega);rw [<- HP1.out] at f1;obtain ⟨rfl,-,-⟩:=Value.slice.inj f1;obtain ⟨A4,g1,g2⟩:=tail_slice T1.out HP1.out (by omega);have hsl:∀ W,(Instr.slice 75 (.slice (some ⟨b1,o1,none⟩) 3 d1) (some (.int .i64 1)) none none).run Tryz.prog W = .ok (.slice A4 2 (d1 - 1)) W:=g2;have F4:=lH (show Fst w (.slice A4 2 (d1 - 1)) y4.c y4.t from fst_tree g1 (by rw [List.getElem?_drop]; exact hy4));clear g1 g2;obtain ⟨A5,g1,g2⟩:=tail_slice2 T1.out HP1.out (by omega);have hsl2:∀ W,(Instr.slice 75 (.slice (some ⟨b1,o1,none⟩) 3 d1) (some (.int .i64 2)) none none).run Tryz.prog W = .ok (.slice A5 1 (d1 - 2)) W:=g2;have F5:=lH (show Fst w (.slice A5 1 (d1 - 2)) y5.c y5.t from fst_tree g1 (by rw [List.getElem?_drop]; exact hy5));clear f1 g1 g2;have t9:decide ((1:Int) < (p3:Int)) = q9:=by rw [H9.out,HP3.out]
 go_enter Tryz.func70,Tryz.ntmps70
 go_wp2_with fail
 go_quiet (fail)
 have HB:Hid (Since w (w.drewN nq)):=lH (Att.belowN w nq);go_wp2_with fail;refine RegW.start (fun W' => Hid (Since w W') /\ W'.cell? ⟨b0,o0 + 3,none⟩ = some (.string y0.d) /\ W'.cell? ⟨bp,op + 3,none⟩ = some (.slice A3 p3 d3)) 57 (by kernel_rfl) ⟨lH (HB.out.step (drew_since2 _)),HPF.out.at_ (HB.out.step (drew_since2 _))⟩ (fun hHeld => ?_);replace HB:=lH (HB.out.step (drew_since2 _));clear m0 m1 m2;refine RegW.tk 0 rfl ?_;try simp only [RegW.p]
 refine RegW.only (i:=1) rfl (by kernel_rfl) (fun K hK => ?_);go_simp;refine hK.out _ _ ⟨lH (HB.out.alloc (.cells #[.int .i64 2] 3)),HPF.out.at_ (HB.out.alloc _)⟩ (fun hHeld => ?_);replace HB:=lH (HB.out.alloc (.cells #[.int .i64 2] 3));clear hK K;try simp only [RegW.p]
 refine RegW.only (i:=2) rfl (by kernel_rfl) (fun K hK => ?_);go_simp;go_at_call 69;refine (is_rd _ _ 0 [2] (by decide) _ Q1.out _ _ _ (F0.out.since HB.out) (tags_lit _ 2)).mono ?_;rintro _ w3 ⟨rfl,h3⟩;replace HB:=lH (HB.out.step h3);clear h3;refine hK.out _ _ ⟨HB,HPF.out.at_ HB.out⟩ (fun hHeld => ?_);clear hK K;try simp only [RegW.p]
 refine RegW.tk 3 rfl ?_;try simp only [RegW.p]
 refine RegW.tk 4 rfl ?_;try simp only [RegW.p]
 refine RegW.tk 5 rfl ?_;try simp only [RegW.p]
 refine RegW.tk 6 rfl ?_;try simp only [RegW.p]
 refine RegW.tk 7 rfl ?_;try simp only [RegW.p]
 refine RegW.only (i:=8) rfl (by kernel_rfl) (fun K hK => ?_);go_simp;go_at_call 66;refine c3.calls0 ?_;intro w4 h4;replace HB:=lH (HB.out.step h4);clear h4;refine hK.out _ _ ⟨HB,HPF.out.at_ HB.out⟩ (fun hHeld => ?_);clear hK K;try simp only [RegW.p]
 refine RegW.tk 9 rfl ?_;try simp only [RegW.p]
 refine RegW.tk 10 rfl ?_;try simp only [RegW.p]
 refine RegW.tk 11 rfl ?_;try simp only [RegW.p]
 refine RegW.tk 12 rfl ?_;try simp only [RegW.p]
 refine RegW.only (i:=13) rfl (by kernel_rfl) (fun K hK => ?_);go_simp;refine hK.out _ _ ⟨lH (HB.out.alloc (.cells #[.int .i64 16] 3)),HPF.out.at_ (HB.out.alloc _)⟩ (fun hHeld => ?_);replace HB:=lH (HB.out.alloc (.cells #[.int .i64 16] 3));clear hK K;try simp only [RegW.p]
 refine RegW.only (i:=14) rfl (by kernel_rfl) (fun K hK => ?_);go_simp;go_at_call 69;refine (is_rd _ _ 0 [16] (by decide) _ Q2.out _ _ _ (F1.out.since HB.out) (tags_lit _ 16)).mono ?_;rintro _ w5 ⟨rfl,h5⟩;replace HB:=lH (HB.out.step h5);clear h5;refine hK.out _ _ ⟨HB,HPF.out.at_ HB.out⟩ (fun hHeld => ?_);clear hK K;try simp only [RegW.p]
 refine RegW.tk 15 rfl ?_;try simp only [RegW.p]
 refine RegW.tk 16 rfl ?_;try simp only [RegW.p]
 refine RegW.tk 17 rfl ?_;try simp only [RegW.p]
 refine RegW.tk 18 rfl ?_;try simp only [RegW.p]
 refine RegW.tk 19 rfl ?_;try simp only [RegW.p]
 refine RegW.tk 20 rfl ?_;try simp only [RegW.p]
 refine RegW.tk 21 rfl ?_;try simp only [RegW.p]
 refine RegW.tk 22 rfl ?_;try simp only [RegW.p]
 refine RegW.tk 23 rfl ?_;try simp only [RegW.p]
 refine RegW.only (i:=24) rfl (by kernel_rfl) (fun K hK => ?_);go_simp;refine hK.out _ _ ⟨lH (HB.out.alloc (.cells #[.int .i64 6] 3)),HPF.out.at_ (HB.out.alloc _)⟩ (fun hHeld => ?_);replace HB:=lH (HB.out.alloc (.cells #[.int .i64 6] 3));clear hK K;try simp only [RegW.p]
 refine RegW.only (i:=25) rfl (by kernel_rfl) (fun K hK => ?_);go_simp;go_at_call 69;refine (is_rd _ _ 0 [6] (by decide) _ Q3.out _ _ _ (F4.out.since HB.out) (tags_lit _ 6)).mono ?_;rintro _ w6 ⟨rfl,h6⟩;replace HB:=lH (HB.out.step h6);clear h6;refine hK.out _ _ ⟨HB,HPF.out.at_ HB.out⟩ (fun hHeld => ?_);clear hK K;try simp only [RegW.p]
 refine RegW.tk 26 rfl ?_;try simp only [RegW.p]
 refine RegW.tk 27 rfl ?_;try simp only [RegW.p]
 refine RegW.tk 28 rfl ?_;try simp only [RegW.p]
 refine RegW.tk 29 rfl ?_;try simp only [RegW.p]
 refine RegW.only (i:=30) rfl (by kernel_rfl) (fun K hK => ?_);go_simp;refine hK.out _ _ ⟨lH (HB.out.alloc (.cells #[.int .i64 6,.int .i64 5] 3)),HPF.out.at_ (HB.out.alloc _)⟩ (fun hHeld => ?_);replace HB:=lH (HB.out.alloc (.cells #[.int .i64 6,.int .i64 5] 3));clear hK K;try simp only [RegW.p]
 refine RegW.only (i:=31) rfl (by kernel_rfl) (fun K hK => ?_);go_simp;go_at_call 69;refine (is_rd _ _ 0 [6,5] (by decide) _ Q4.out _ _ _ (F5.out.since HB.out) (tags_lit2 _ 6 5)).mono ?_;rintro _ w7 ⟨rfl,h7⟩;replace HB:=lH (HB.out.step h7);clear h7;refine hK.out _ _ ⟨HB,HPF.out.at_ HB.out⟩ (fun hHeld => ?_);clear hK K;try simp only [RegW.p]
 refine RegW.tk 32 rfl ?_;try simp only [RegW.p]
 refine RegW.tk 33 rfl ?_;try simp only [RegW.p]
 refine RegW.tk 34 rfl ?_;try simp only [RegW.p]
 refine RegW.only (i:=35) rfl (by kernel_rfl) (fun K hK => ?_);go_simp;refine hK.out _ _ ⟨lH (HB.out.alloc (.cells #[.int .i64 4] 3)),HPF.out.at_ (HB.out.alloc _)⟩ (fun hHeld => ?_);replace HB:=lH (HB.out.alloc (.cells #[.int .i64 4] 3));clear hK K;try simp only [RegW.p]
 refine RegW.only (i:=36) rfl (by kernel_rfl) (fun K hK => ?_);go_simp;go_at_call 69;refine (is_rd _ _ 0 [4] (by decide) _ Q5.out _ _ _ (F2.out.since HB.out) (tags_lit _ 4)).mono ?_;rintro _ w8 ⟨rfl,h8⟩;replace HB:=lH (HB.out.step h8);clear h8;refine hK.out _ _ ⟨HB,HPF.out.at_ HB.out⟩ (fun hHeld => ?_);clear hK K;try simp only [RegW.p]
 refine RegW.tk 37 rfl ?_;try simp only [RegW.p]
 refine RegW.tk 38 rfl ?_;try simp only [RegW.p]
 refine RegW.tk 39 rfl ?_;try simp only [RegW.p]
 refine RegW.tk 40 rfl ?_;try simp only [RegW.p]
 refine RegW.tk 41 rfl ?_;try simp only [RegW.p]
 refine RegW.tk 42 rfl ?_;try simp only [RegW.p]
 refine RegW.tk 43 rfl ?_;try simp only [RegW.p]
 refine RegW.tk 44 rfl ?_;try simp only [RegW.p]
 refine RegW.tk 45 rfl ?_;try simp only [RegW.p]
 refine RegW.only (i:=46) rfl (by kernel_rfl) (fun K hK => ?_);go_simp;refine hK.out _ _ ⟨lH (HB.out.alloc (.cells #[.int .i64 0] 3)),HPF.out.at_ (HB.out.alloc _)⟩ (fun hHeld => ?_);replace HB:=lH (HB.out.alloc (.cells #[.int .i64 0] 3));clear hK K;try simp only [RegW.p]
 refine RegW.only (i:=47) rfl (by kernel_rfl) (fun K hK => ?_);go_simp;go_at_call 69;refine (is_rd _ _ 2 [0] (by decide) _ Q6.out _ _ _ (F3.out.since HB.out) (tags_lit _ 0)).mono ?_;rintro _ w9 ⟨rfl,h9⟩;replace HB:=lH (HB.out.step h9);clear h9;refine hK.out _ _ ⟨HB,HPF.out.at_ HB.out⟩ (fun hHeld => ?_);clear hK K;try simp only [RegW.p]
 refine RegW.tk 48 rfl ?_;try simp only [RegW.p]
 refine RegW.tk 49 rfl ?_;try simp only [RegW.p]
 refine RegW.tk 50 rfl ?_;try simp only [RegW.p]
 refine RegW.tk 51 rfl ?_;try simp only [RegW.p]
 refine RegW.tk 52 rfl ?_;try simp only [RegW.p]
 refine RegW.tk 53 rfl ?_;try simp only [RegW.p]
 refine RegW.tk 54 rfl ?_;try simp only [RegW.p]
 refine RegW.tk 55 rfl ?_;try simp only [RegW.p]
 refine RegW.tk 56 rfl ?_;try simp only [RegW.p]
 refine RegW.last rfl (by kernel_rfl) (by kernel_rfl) ?_;clear hHeld;go_wp2_with fail;go_ret;exact ⟨rfl,HB.out⟩
end Pk
namespace Pk
open Span Flt Rw Tlv
theorem tree_nil_any {W W':World} {v:Value} (h:TreeS W v []):TreeS W' v []:=by
 obtain ⟨ns,⟨h1,h2⟩,h3⟩:=h;have h4:ns = []:=List.map_eq_nil_iff.1 h3;subst h4;obtain ⟨hl,A,c,rfl,g1,g2,-⟩:=h1;exact ⟨[],⟨⟨hl,A,c,rfl,g1,g2,Or.inl rfl⟩,fun x hx => by cases hx⟩,rfl⟩
theorem rows_tree {B g:Nat} {s:ByteArray} {tv fv ov:Value} {ns:List (Nd × Value)} {fr to:List Nat} {X:List Row} {W:World} (h:Rw.Rows W B (RR g s tv fv ov ns fr to X)):TreeS W tv (ns.map Prod.fst) :=
 ⟨ns,⟨SlR.own (h.own ⟨87,5,tv,ns.length,ns.flatMap nc⟩ (by unfold RR; simp)),fun x hx => by
   have h9:=h.own (kr x) (by unfold RR; simp; exact .inr (.inr (.inr (.inr (.inl ⟨x.1,x.2,hx,rfl⟩)))));have h8:SlR W 1 x.2 x.1.k.length (x.1.k.map (Value.int .i64)):=SlR.own h9;exact h8⟩,rfl⟩
theorem rs_treeN {w0:World} {base g:Nat} {s:ByteArray} {tv fv ov:Value} {ns:List (Nd × Value)} {fr to:List Nat} {X:List Row} {W:World} (h:RS w0 g s tv fv ov ns fr to X W) (hb:base <= w0.heap.size):TreeN base W tv (ns.map Prod.fst) :=
 fun _ _ h2 => rows_tree (B:=w0.heap.size) ⟨fun r hr => own_moved (h.rows.own r hr) (fun b h3 h4 => h2 b (Nat.le_trans hb h3) h4),h.rows.apart⟩
set_option maxHeartbeats 1000000 in
theorem rdec_okn (s:ByteArray) (N:List Nd) (FR TO:List Nat) (c1:WhO s N FR TO) (w:World):Calls Tryz.prog 63 #[.string s] w fun e w' => ∃ tv,e = .returned (.tuple #[tv,.agg (F2 0 0)]) /\ TreeN w.heap.size w' tv N /\ Since w w':=by
 go_enter Tryz.func63,Tryz.ntmps63
 go_wp2_with fail;refine (c1 _).mono ?_;rintro x w9 ⟨g,tv,fv,ov,ns,rfl,hR9,hN9,hS9⟩;have hs9:=lH (((Since.step ((Since.refl w).alloc (.cells #[.int .i64 0,.int .i64 0] 65)) hS9).alloc (.cells (F2 0 0) 65)).drew);have hf:=((hr_old (HR.step (w:=w) (W:=w.alloc (.cells #[.int .i64 0,.int .i64 0] 65)) ⟨heap_alloc_new w _⟩ hS9) (.cells (F2 0 0) 65)).step (Since.drew (Since.refl _))).row;have HR:=lH ((RS.step ⟨hR9,hS9⟩ ((Since.refl w9).alloc (.cells (F2 0 0) 65))).step (Since.drew (Since.refl _)));have HN:=lH hN9;clear hS9 hR9 hN9;unfold F2 at hf hs9 HR ⊢;have z1:=HR.out.cells.2.1;go_wp2_with fail;refine RegW.start (fun W' => W' = (w9.alloc (.cells #[.int .i64 0,.int .i64 0] 65)).drew) 6 (by kernel_rfl) rfl (fun hHeld => ?_);refine RegW.take (i:=0) (v:=?_) rfl (by kernel_rfl) (by kernel_rfl) (by kernel_rfl) (by kernel_rfl) (fun _ _ _ h => h) (Or.inl ⟨by rfl, ?_⟩) rfl ?_;rotate_left
 · intro w hSw;clear hSw;go_simp
   try with_reducible rfl
 try simp only [RegW.p]
 refine RegW.take (i:=1) (v:=?_) rfl (by kernel_rfl) (by kernel_rfl) (by kernel_rfl) (by kernel_rfl) (fun _ _ _ h => h) (Or.inl ⟨by rfl, ?_⟩) rfl ?_;rotate_left
 · intro w hSw;clear hSw;go_simp
   try with_reducible rfl
 try simp only [RegW.p]
 refine RegW.take (i:=2) (v:=?_) rfl (by kernel_rfl) (by kernel_rfl) (by kernel_rfl) (by kernel_rfl) (fun _ _ _ h => h) (Or.inl ⟨by rfl, ?_⟩) rfl ?_;rotate_left
 · intro w hSw;clear hSw;go_simp
   try with_reducible rfl
 try simp only [RegW.p]
 refine RegW.take (i:=3) (v:=tv) rfl (by kernel_rfl) (by kernel_rfl) (by kernel_rfl) (by kernel_rfl) (fun _ _ _ h => h) (Or.inl ⟨by rfl, ?_⟩) rfl ?_
 · intro w hSw;subst hSw;go_simp
   try with_reducible rfl
 try simp only [RegW.p]
 refine RegW.take (i:=4) (v:=.agg (F2 0 0)) rfl (by kernel_rfl) (by kernel_rfl) (by kernel_rfl) (by kernel_rfl) (fun _ _ _ h => h) (Or.inl ⟨by rfl, ?_⟩) rfl ?_
 · intro w hSw;subst hSw;unfold F2;go_simp
   try with_reducible rfl
 try simp only [RegW.p]
 refine RegW.take (i:=5) (v:=?_) rfl (by kernel_rfl) (by kernel_rfl) (by kernel_rfl) (by kernel_rfl) (fun _ _ _ h => h) (Or.inl ⟨by rfl, ?_⟩) rfl ?_;rotate_left
 · intro w hSw;clear hSw;go_simp
   try with_reducible rfl
 try simp only [RegW.p]
 refine RegW.last rfl (by kernel_rfl) (by kernel_rfl) ?_;refine wpList_store_row rfl 65 _ _ rfl w.heap.size (F2 0 0) (by rfl) (by rfl) _ _ hf (f2_info _ _) rfl (f2_one _ _) ?_;have hself:=setRow_self _ _ _ _ _ hf;unfold F2;rw [hself];go_wp2_with fail;exact bodyPost_ret (v:=.tuple #[tv,.agg (F2 0 0)]) (results_t_cell Tryz.results63 _ _ _ _ _ _ _ _ rfl rfl hf Tryz.underlying65 rfl (f2_info _ _)) rfl ⟨_,rfl,by rw [<- HN.out]; exact rs_treeN HR.out (Nat.le_of_lt (by simp)),hs9.out⟩
theorem rdec_n (s:ByteArray) (c p:Nat) (N:List Nd) (S:List (Nat × Nat)) (ht:topV s = (c,p,N,S)) (w:World):Calls Tryz.prog 63 #[.string s] w fun e w' => ∃ tv,e = .returned (.tuple #[tv,.agg (F2 (c:Int) (p:Int))]) /\ TreeN w.heap.size w' tv N /\ Since w w':=by
 have h:=fun w => wh_any s w
 unfold topV at ht;cases hT:top Strs.rightB s with
 | error y =>
   obtain ⟨c',p'⟩:=y;rw [hT] at h ht;cases ht;exact (rdec_err s _ _ (by rw [bne_iff_ne]; have:=(top_err_ok hT).1; omega) (fun w => h w) w).mono fun _ _ ⟨tv,h1,h2,h3⟩ => ⟨tv,h1,fun _ _ _ => tree_nil_any h2,h3⟩
 | ok f =>
   rw [hT] at h ht;cases ht;exact rdec_okn s _ _ _ (fun w => h w) w
def RDecT (s:ByteArray) (C P:Int) (N:List Nd):Prop:=∀ w,Calls Tryz.prog 63 #[.string s] w fun e w' => ∃ tv,e = .returned (.tuple #[tv,.agg #[.int .i64 C,.int .i64 P]]) /\ TreeN w.heap.size w' tv N /\ Since w w'
end Pk
namespace Pk
open Tlv Tree Strs Rw
def RdM (f:Nat) (xs ps:List Int) (key attrs:ByteArray) (N:List Nd) (q:Bool):Prop:=∀ w a b,IntsS w a xs -> IntsS w b ps -> Calls Tryz.prog f #[.agg #[a,b,.string key,.string attrs]] w fun e w' => ∃ v,e = .returned (.tuple #[v,.bool q]) /\ TreeS w' v N /\ Since w w'
theorem rmade_1 (xs ps:List Int) (key attrs nm:ByteArray) (c1:∀ w v,IntsS w v xs -> Calls Tryz.prog 55 #[v] w fun e w' => e = .returned (.tuple #[.string nm,.bool false]) /\ Since w w'):RdM 67 xs ps key attrs [] false:=by
 intro w a b ha hb;obtain ⟨A,c,rfl,-,-⟩:=ha.slice;obtain ⟨B,d,rfl,-,-⟩:=hb.slice;obtain ⟨n,hn⟩:∃ n,n = xs.length:=⟨_,rfl⟩
 obtain ⟨m,hm⟩:∃ n,n = ps.length:=⟨_,rfl⟩
 rw [<- hn] at ha ⊢;rw [<- hm] at hb ⊢;have hs0:=(Since.refl w).alloc (.cells #[.slice A n c,.slice B m d,.string key,.string attrs] 46);have HX:=lH (SlR.since ha hs0);have HP:=lH (SlR.since hb hs0);have HS:=lH hs0;have HBX:=lH (BX.new w (.slice A n c) (.slice B m d) key attrs 46);have HM:=lH (And.intro hn hm);obtain ⟨-,b0,b1,b2,b3⟩:=HBX.out;clear ha hb hs0 hn hm
 go_enter Tryz.func67,Tryz.ntmps67
 go_wp2_with fail;refine (c1 _ _ HX.out).mono ?_;rintro _ w1 ⟨rfl,h1⟩;replace HS:=lH (HS.out.step h1);replace HBX:=lH (HBX.out.since h1);replace HP:=lH (SlR.since HP.out h1);clear b0 b1 b2 b3 h1;obtain ⟨-,b0,b1,b2,b3⟩:=HBX.out;go_wp2_with fail;go_ret2;exact ⟨_,rfl,TreeS.nil _,HS.out⟩
theorem rmade_2 (xs ps:List Int) (key attrs nm pb:ByteArray) (h0:0 < ps.length) (c1:∀ w v,IntsS w v xs -> Calls Tryz.prog 55 #[v] w fun e w' => e = .returned (.tuple #[.string nm,.bool true]) /\ Since w w') (c2:∀ w v,IntsS w v ps -> Calls Tryz.prog 55 #[v] w fun e w' => e = .returned (.tuple #[.string pb,.bool false]) /\ Since w w'):RdM 67 xs ps key attrs [] false:=by
 intro w a b ha hb;obtain ⟨A,c,rfl,-,-⟩:=ha.slice;obtain ⟨B,d,rfl,-,-⟩:=hb.slice;obtain ⟨n,hn⟩:∃ n,n = xs.length:=⟨_,rfl⟩
 obtain ⟨m,hm⟩:∃ n,n = ps.length:=⟨_,rfl⟩
 rw [<- hn] at ha ⊢;rw [<- hm] at hb ⊢;have hs0:=(Since.refl w).alloc (.cells #[.slice A n c,.slice B m d,.string key,.string attrs] 46);have HX:=lH (SlR.since ha hs0);have HP:=lH (SlR.since hb hs0);have HS:=lH hs0;have HBX:=lH (BX.new w (.slice A n c) (.slice B m d) key attrs 46);have HM:=lH (And.intro hn hm);obtain ⟨-,b0,b1,b2,b3⟩:=HBX.out;clear ha hb hs0 hn hm
 go_enter Tryz.func67,Tryz.ntmps67
 go_wp2_with fail;have t1:decide ((0:Int) < (m:Int)) = true:=decide_eq_true (by have:=HM.out.2; omega);have t2:decide (0 < m) = true:=decide_eq_true (by have:=HM.out.2; omega);refine (c1 _ _ HX.out).mono ?_;rintro _ w1 ⟨rfl,h1⟩;clear HX;replace HS:=lH (HS.out.step h1);replace HBX:=lH (HBX.out.since h1);replace HP:=lH (SlR.since HP.out h1);clear b0 b1 b2 b3 h1;obtain ⟨-,b0,b1,b2,b3⟩:=HBX.out;go_wp2_with fail;refine (rleaf_mk 0 5 ⟨#[]⟩ _).mono ?_;rintro _ w2 ⟨v2,rfl,t2,h2⟩;obtain ⟨AP,QP,e2,-,-⟩:=t2.slice;replace e2:v2 = .slice AP 1 QP:=e2;subst e2;have TP:=lH t2;clear t2;replace HS:=lH (HS.out.step h2);replace HBX:=lH (HBX.out.since h2);replace HP:=lH (SlR.since HP.out h2);clear b0 b1 b2 b3 h2;obtain ⟨-,b0,b1,b2,b3⟩:=HBX.out;go_wp2_with fail;refine (c2 _ _ HP.out).mono ?_;rintro _ w3 ⟨rfl,h3⟩;replace HS:=lH (HS.out.step h3);replace HBX:=lH (HBX.out.since h3);replace HP:=lH (SlR.since HP.out h3);clear b0 b1 b2 b3 h3;obtain ⟨-,b0,b1,b2,b3⟩:=HBX.out;go_wp2_with fail;go_ret2;exact ⟨_,rfl,TreeS.nil _,HS.out⟩
def RParE (ps:List Int) (pt:Nat) (pb:ByteArray):Prop:=(ps.length = 0 /\ pt = 5 /\ pb = ⟨#[]⟩) ∨ (0 < ps.length /\ pt = 6 /\ ∀ w v,IntsS w v ps -> Calls Tryz.prog 55 #[v] w fun e w' => e = .returned (.tuple #[.string pb,.bool true]) /\ Since w w')
set_option maxHeartbeats 4000000 in
theorem rmade_3 (xs ps:List Int) (key attrs nm:ByteArray) (pt:Nat) (pb:ByteArray) (c1:∀ w v,IntsS w v xs -> Calls Tryz.prog 55 #[v] w fun e w' => e = .returned (.tuple #[.string nm,.bool true]) /\ Since w w') (hp:RParE ps pt pb) (C P:Int) (hC:(C != 0) = true) (L:List ByteArray) (d1:PcR 48 attrs C P L):RdM 67 xs ps key attrs [] false:=by
 intro w a b ha hb;obtain ⟨A,c,rfl,-,-⟩:=ha.slice;obtain ⟨B,d,rfl,-,-⟩:=hb.slice;obtain ⟨n,hn⟩:∃ n,n = xs.length:=⟨_,rfl⟩
 obtain ⟨m,hm⟩:∃ n,n = ps.length:=⟨_,rfl⟩
 rw [<- hn] at ha ⊢;rw [<- hm] at hb ⊢;have hs0:=(Since.refl w).alloc (.cells #[.slice A n c,.slice B m d,.string key,.string attrs] 46);have HX:=lH (SlR.since ha hs0);have HP:=lH (SlR.since hb hs0);have HS:=lH hs0;have HBX:=lH (BX.new w (.slice A n c) (.slice B m d) key attrs 46);have HM:=lH (And.intro hn hm);obtain ⟨-,b0,b1,b2,b3⟩:=HBX.out;clear ha hb hs0 hn hm
 go_enter Tryz.func67,Tryz.ntmps67
 go_wp2_with fail;rcases hp with ⟨h0,hpt,hpb⟩ | ⟨h0,hpt,c2⟩
 · have t1:decide ((0:Int) < (m:Int)) = false:=decide_eq_false (by have:=HM.out.2; omega);have t2:decide (0 < m) = false:=decide_eq_false (by have:=HM.out.2; omega);have HPT:=lH (And.intro hpt hpb);clear hpt hpb;refine (c1 _ _ HX.out).mono ?_;rintro _ w1 ⟨rfl,h1⟩;clear HX;replace HS:=lH (HS.out.step h1);replace HBX:=lH (HBX.out.since h1);replace HP:=lH (SlR.since HP.out h1);clear b0 b1 b2 b3 h1;obtain ⟨-,b0,b1,b2,b3⟩:=HBX.out;go_wp2_with fail;refine (rleaf_mk 0 5 ⟨#[]⟩ _).mono ?_;rintro _ w2 ⟨v2,rfl,t2,h2⟩;obtain ⟨AP,QP,e2,-,-⟩:=t2.slice;replace e2:v2 = .slice AP 1 QP:=e2;subst e2;have TP:=lH t2;clear t2;replace HS:=lH (HS.out.step h2);replace HBX:=lH (HBX.out.since h2);replace HP:=lH (SlR.since HP.out h2);clear b0 b1 b2 b3 h2;obtain ⟨-,b0,b1,b2,b3⟩:=HBX.out;replace TP:Hid (TreeS w2 (.slice AP 1 QP) ((F.prim 0 pt pb .nil).flat 0)):=lH (by rw [HPT.out.1,HPT.out.2]; exact TP.out);clear HP HM HPT;go_wp2_with fail;refine (d1 _).mono ?_;rintro _ w5 ⟨u1,rfl,hU,h5⟩;obtain ⟨A5,q5,e5,-,-⟩:=SlR.slice hU;subst e5;obtain ⟨l0,hl0⟩:∃ n,n = L.length:=⟨_,rfl⟩
   rw [<- hl0] at hU ⊢;have HL0:=lH hl0;clear hl0;replace HS:=lH (HS.out.step h5);replace HBX:=lH (HBX.out.since h5);clear b0 b1 b2 b3 h5;obtain ⟨-,b0,b1,b2,b3⟩:=HBX.out;have hsq:=(Since.refl w5).alloc (.cells #[.int .i64 0,.int .i64 0] 65);have r1:(w5.alloc (.cells #[.int .i64 0,.int .i64 0] 65)).heap[w5.heap.size]? = some (.cells #[.int .i64 0,.int .i64 0] 65 (0,0)):=heap_alloc_new w5 _;have hb:=lH (hb_row (K:=KT) (C':=#[.int .i64 C,.int .i64 P]) ((Since.refl w5).alloc _) (Nat.le_refl _) trivial r1);have y0:=hb.out.cell 0 _ rfl;replace HS:=lH (HS.out.step hb.out.since);replace HBX:=lH (HBX.out.since hb.out.since);have HU:=lH (SlR.since hU hb.out.since);clear hU hsq;clear TP HU b0 b1 b2 b3;go_wp2_with (refine RwL.at_store (ty:=65) rfl ?_; refine wpList_store_row rfl 65 _ _ rfl w5.heap.size #[.int .i64 C,.int .i64 P] (by rfl) (by rfl) _ _ r1 (f2_info C P) rfl (f2_one C P) ?_; generalize (w5.alloc (.cells #[.int .i64 0,.int .i64 0] 65)).setRow w5.heap.size #[.int .i64 C,.int .i64 P] = w6 at HS HBX y0 ⊢; clear r1 hb)
   go_ret2;exact ⟨_,rfl,TreeS.nil _,HS.out⟩
 · have t1:decide ((0:Int) < (m:Int)) = true:=decide_eq_true (by have:=HM.out.2; omega);have t2:decide (0 < m) = true:=decide_eq_true (by have:=HM.out.2; omega);have HPT:=lH hpt;clear hpt;refine (c1 _ _ HX.out).mono ?_;rintro _ w1 ⟨rfl,h1⟩;clear HX;replace HS:=lH (HS.out.step h1);replace HBX:=lH (HBX.out.since h1);replace HP:=lH (SlR.since HP.out h1);clear b0 b1 b2 b3 h1;obtain ⟨-,b0,b1,b2,b3⟩:=HBX.out;go_wp2_with fail;refine (rleaf_mk 0 5 ⟨#[]⟩ _).mono ?_;rintro _ w2 ⟨v2,rfl,t2,h2⟩;obtain ⟨A0,Q0,e2,-,-⟩:=t2.slice;replace e2:v2 = .slice A0 1 Q0:=e2;subst e2;clear t2;replace HS:=lH (HS.out.step h2);replace HBX:=lH (HBX.out.since h2);replace HP:=lH (SlR.since HP.out h2);clear b0 b1 b2 b3 h2;obtain ⟨-,b0,b1,b2,b3⟩:=HBX.out;go_wp2_with fail;refine (c2 _ _ HP.out).mono ?_;rintro _ w3 ⟨rfl,h3⟩;replace HS:=lH (HS.out.step h3);replace HBX:=lH (HBX.out.since h3);replace HP:=lH (SlR.since HP.out h3);clear b0 b1 b2 b3 h3;obtain ⟨-,b0,b1,b2,b3⟩:=HBX.out;go_wp2_with fail;refine (rleaf_mk 0 6 pb _).mono ?_;rintro _ w4 ⟨v4,rfl,t4,h4⟩;obtain ⟨AP,QP,e4,-,-⟩:=t4.slice;replace e4:v4 = .slice AP 1 QP:=e4;subst e4;have TP:Hid (TreeS w4 (.slice AP 1 QP) ((F.prim 0 pt pb .nil).flat 0)):=lH (by rw [HPT.out]; exact t4);clear t4 HPT;replace HS:=lH (HS.out.step h4);replace HBX:=lH (HBX.out.since h4);replace HP:=lH (SlR.since HP.out h4);clear b0 b1 b2 b3 h4;obtain ⟨-,b0,b1,b2,b3⟩:=HBX.out;clear HP HM;go_wp2_with fail;refine (d1 _).mono ?_;rintro _ w5 ⟨u1,rfl,hU,h5⟩;obtain ⟨A5,q5,e5,-,-⟩:=SlR.slice hU;subst e5;obtain ⟨l0,hl0⟩:∃ n,n = L.length:=⟨_,rfl⟩
   rw [<- hl0] at hU ⊢;have HL0:=lH hl0;clear hl0;replace HS:=lH (HS.out.step h5);replace HBX:=lH (HBX.out.since h5);clear b0 b1 b2 b3 h5;obtain ⟨-,b0,b1,b2,b3⟩:=HBX.out;have hsq:=(Since.refl w5).alloc (.cells #[.int .i64 0,.int .i64 0] 65);have r1:(w5.alloc (.cells #[.int .i64 0,.int .i64 0] 65)).heap[w5.heap.size]? = some (.cells #[.int .i64 0,.int .i64 0] 65 (0,0)):=heap_alloc_new w5 _;have hb:=lH (hb_row (K:=KT) (C':=#[.int .i64 C,.int .i64 P]) ((Since.refl w5).alloc _) (Nat.le_refl _) trivial r1);have y0:=hb.out.cell 0 _ rfl;replace HS:=lH (HS.out.step hb.out.since);replace HBX:=lH (HBX.out.since hb.out.since);have HU:=lH (SlR.since hU hb.out.since);clear hU hsq;clear TP HU b0 b1 b2 b3;go_wp2_with (refine RwL.at_store (ty:=65) rfl ?_; refine wpList_store_row rfl 65 _ _ rfl w5.heap.size #[.int .i64 C,.int .i64 P] (by rfl) (by rfl) _ _ r1 (f2_info C P) rfl (f2_one C P) ?_; generalize (w5.alloc (.cells #[.int .i64 0,.int .i64 0] 65)).setRow w5.heap.size #[.int .i64 C,.int .i64 P] = w6 at HS HBX y0 ⊢; clear r1 hb)
   go_ret2;exact ⟨_,rfl,TreeS.nil _,HS.out⟩
set_option maxHeartbeats 8000000 in
theorem rmade_4 (xs ps:List Int) (key attrs nm:ByteArray) (pt:Nat) (pb:ByteArray) (c1:∀ w v,IntsS w v xs -> Calls Tryz.prog 55 #[v] w fun e w' => e = .returned (.tuple #[.string nm,.bool true]) /\ Since w w') (hp:RParE ps pt pb) (C P:Int) (hC:(C != 0) = false) (L:List ByteArray) (hm:L.length <= 1000) (d1:PcR 48 attrs C P L) (dD:∀ x ∈ L,(okx x = true /\ RDecT x 0 0 ((gOf x).flat 0)) ∨ (okx x = false /\ ∃ C P:Int,(C != 0) = true /\ RDecT x C P [])) (hbad:∃ x ∈ L,okx x = false):RdM 67 xs ps key attrs [] false:=by
 have HDD:=lH dD;have HBD:=lH hbad;have HMM:=lH hm;clear dD hbad hm;intro w a b ha hb;obtain ⟨A,c,rfl,-,-⟩:=ha.slice;obtain ⟨B,d,rfl,-,-⟩:=hb.slice;obtain ⟨n,hn⟩:∃ n,n = xs.length:=⟨_,rfl⟩
 obtain ⟨m,hm⟩:∃ n,n = ps.length:=⟨_,rfl⟩
 rw [<- hn] at ha ⊢;rw [<- hm] at hb ⊢;have hs0:=(Since.refl w).alloc (.cells #[.slice A n c,.slice B m d,.string key,.string attrs] 46);have HX:=lH (SlR.since ha hs0);have HP:=lH (SlR.since hb hs0);have HS:=lH hs0;have HBX:=lH (BX.new w (.slice A n c) (.slice B m d) key attrs 46);have HM:=lH (And.intro hn hm);obtain ⟨-,b0,b1,b2,b3⟩:=HBX.out;clear ha hb hs0 hn hm
 go_enter Tryz.func67,Tryz.ntmps67
 go_wp2_with fail;rcases hp with ⟨h0,hpt,hpb⟩ | ⟨h0,hpt,c2⟩
 · have t1:decide ((0:Int) < (m:Int)) = false:=decide_eq_false (by have:=HM.out.2; omega);have t2:decide (0 < m) = false:=decide_eq_false (by have:=HM.out.2; omega);have HPT:=lH (And.intro hpt hpb);clear hpt hpb;refine (c1 _ _ HX.out).mono ?_;rintro _ w1 ⟨rfl,h1⟩;clear HX;replace HS:=lH (HS.out.step h1);replace HBX:=lH (HBX.out.since h1);replace HP:=lH (SlR.since HP.out h1);clear b0 b1 b2 b3 h1;obtain ⟨-,b0,b1,b2,b3⟩:=HBX.out;go_wp2_with fail;refine (rleaf_mk 0 5 ⟨#[]⟩ _).mono ?_;rintro _ w2 ⟨v2,rfl,t2,h2⟩;obtain ⟨AP,QP,e2,-,-⟩:=t2.slice;replace e2:v2 = .slice AP 1 QP:=e2;subst e2;have TP:=lH t2;clear t2;replace HS:=lH (HS.out.step h2);replace HBX:=lH (HBX.out.since h2);replace HP:=lH (SlR.since HP.out h2);clear b0 b1 b2 b3 h2;obtain ⟨-,b0,b1,b2,b3⟩:=HBX.out;replace TP:Hid (TreeS w2 (.slice AP 1 QP) ((F.prim 0 pt pb .nil).flat 0)):=lH (by rw [HPT.out.1,HPT.out.2]; exact TP.out);clear HP HM HPT;go_wp2_with fail;refine (d1 _).mono ?_;rintro _ w5 ⟨u1,rfl,hU,h5⟩;obtain ⟨A5,q5,e5,-,-⟩:=SlR.slice hU;subst e5;obtain ⟨l0,hl0⟩:∃ n,n = L.length:=⟨_,rfl⟩
   rw [<- hl0] at hU ⊢;have HL0:=lH hl0;clear hl0;replace HS:=lH (HS.out.step h5);replace HBX:=lH (HBX.out.since h5);clear b0 b1 b2 b3 h5;obtain ⟨-,b0,b1,b2,b3⟩:=HBX.out;have hsq:=(Since.refl w5).alloc (.cells #[.int .i64 0,.int .i64 0] 65);have r1:(w5.alloc (.cells #[.int .i64 0,.int .i64 0] 65)).heap[w5.heap.size]? = some (.cells #[.int .i64 0,.int .i64 0] 65 (0,0)):=heap_alloc_new w5 _;have hb:=lH (hb_row (K:=KT) (C':=#[.int .i64 C,.int .i64 P]) ((Since.refl w5).alloc _) (Nat.le_refl _) trivial r1);have y0:=hb.out.cell 0 _ rfl;replace HS:=lH (HS.out.step hb.out.since);replace HBX:=lH (HBX.out.since hb.out.since);have HU:=lH (SlR.since hU hb.out.since);clear hU hsq;have hm:l0 <= 1000:=by rw [HL0.out]; exact HMM.out
   clear TP b0 b1 b2 b3 HBX;go_wp2_with (refine RwL.at_store (ty:=65) rfl ?_; refine wpList_store_row rfl 65 _ _ rfl w5.heap.size #[.int .i64 C,.int .i64 P] (by rfl) (by rfl) _ _ r1 (f2_info C P) rfl (f2_one C P) ?_; generalize (w5.alloc (.cells #[.int .i64 0,.int .i64 0] 65)).setRow w5.heap.size #[.int .i64 C,.int .i64 P] = w6 at HS HU y0 ⊢; clear r1 hb)
   clear y0;have HS0:=HS;clear HS;go_loopw [11,12] (fun V i wr => ∃ (k:Nat) (vs:List Value),k <= l0 /\ i = .int .i64 (k:Int) /\ Hid (∀ x ∈ L.take k,okx x = true) /\ Hid (TRow w6 wr V vs ((L.take k).map fun x => (gOf x).flat 0)) /\ Hid (Since w6 wr)) (fun _ i _ => l0 - (intOf i).toNat)
   case atStart => exact ⟨0,[],Nat.zero_le _,rfl,lH (by simp),lH (TRow.nil _ _),lH (Since.refl w6)⟩
   case round =>
     obtain ⟨k,vs,hk,rfl,HA,HR,HS⟩:=hrel;obtain ⟨VA,vc,rfl,-⟩:=HR.out.val;have hvl:vs.length = k:=by rw [HR.out.len,List.length_map,List.length_take,Nat.min_eq_left (by rw [<- HL0.out]; exact hk)]
     have HVL:=lH hvl;rw [hvl];have HR9:=lH (show Rw.Rows wr w6.heap.size (([]:List Row) ++ ⟨75,1,.slice VA k vc,k,vs⟩ :: []) by have h9:=HR.out.row; rw [hvl] at h9; exact h9);clear hvl
     by_cases hlt:k < l0
     · obtain ⟨x,hx⟩:∃ x,L[k]? = some x:=⟨_,List.getElem?_eq_getElem (by rw [<- HL0.out]; exact hlt)⟩
       obtain ⟨b,o,c9,hv,f1,f2,f3,f4⟩:=SlR.form HU.out (by rw [<- HL0.out]; omega);obtain ⟨rfl,-,rfl⟩:=Value.slice.inj hv;have m0:=(Below.cell HS.out (p:=⟨b,o + k,none⟩) f3).trans (f4 k (.string x) (by rw [List.getElem?_map,hx]; rfl));have hmem:=List.mem_of_getElem? hx;have hdd:=HDD.out x hmem;have hts:=Att.take_snoc L k x hx;have HTS:=lH hts;have i1:(0:Int) <= (k:Int):=by omega
       have i2:(k:Int) < (l0:Int):=by omega
       clear hx hv f1 f2 f3 f4 hts hmem;rcases hdd with ⟨ho,cd⟩ | ⟨ho,C9,P9,hC9,cd⟩
       · have HO:=lH ho;clear ho;go_wp2_with fail;refine (cd _).mono ?_;rintro _ w7 ⟨u4,rfl,hU4,h4⟩;obtain ⟨A4,q4,e4,-,-⟩:=hU4.tree.slice;obtain ⟨n4,hn4⟩:∃ n,n = ((gOf x).flat 0).length:=⟨_,rfl⟩
         rw [<- hn4] at e4;subst e4;have r1:(w7.alloc (.cells #[.int .i64 0,.int .i64 0] 65)).heap[w7.heap.size]? = some (.cells #[.int .i64 0,.int .i64 0] 65 (0,0)):=heap_alloc_new w7 _;have hb:=lH (Tree.hb_row (K:=KT) (C':=#[.int .i64 0,.int .i64 0]) ((Since.refl w7).alloc _) (Nat.le_refl _) trivial r1);have y0:(World.setRow (w7.alloc (.cells #[.int .i64 0,.int .i64 0] 65)) w7.heap.size #[.int .i64 0,.int .i64 0]).cell? ⟨w7.heap.size,0,none⟩ = some (.int .i64 0):=hb.out.cell 0 _ rfl;have HS6:=lH ((HS.out.step h4).step hb.out.since);have HT6:=lH ((HR.out.since h4).since hb.out.since);have HR6:=lH (Rw.Rows.since (Rw.Rows.since HR9.out h4) hb.out.since);have HU6:=lH (hU4.since hb.out.since);have HB1:=lH (show k + 1 <= maxLen by unfold maxLen; omega);have HB2:=lH (show (k + 1) * 24 <= 140737488355328 by omega);have HLB:=lH (show ∀ g,(Value.slice VA k vc).ownBlock = some g -> g < wr.heap.size from fun g hg => (World.ownsRow.lt HR9.out.get g hg).2);have HWB:=lH (show wr.heap.size <= ((w7.alloc (.cells #[.int .i64 0,.int .i64 0] 65)).setRow w7.heap.size #[.int .i64 0,.int .i64 0]).heap.size from Nat.le_trans (Below.size h4) (Below.size hb.out.since));clear hU4 h4 HS HR HR9 m0 hn4;go_wp2_with (first
           | (refine RwL.at_store (ty:=65) rfl ?_; refine wpList_store_row rfl 65 _ _ rfl w7.heap.size #[.int .i64 0,.int .i64 0] (by rfl) (by rfl) _ _ r1 (f2_info 0 0) rfl (f2_one 0 0) ?_; generalize hw8:(w7.alloc (.cells #[.int .i64 0,.int .i64 0] 65)).setRow w7.heap.size #[.int .i64 0,.int .i64 0] = w8 at HS6 HT6 HR6 HU6 HWB y0 ⊢; clear hw8 r1 hb)
           | (at_builtin; refine app_rows2 elemTr rfl _ _ (by rfl) w6 w8 _ rfl [] [] _ k _ (by rfl) HR6.out HS6.out #[.slice A4 n4 q4] 1 1 (by rfl) rfl (slice_one A4 n4 q4) HB1.out HB2.out ?_; intro V2 w9 HQ2 HT2 HK2 HW2))
         have HF:Hid (TRow w6 w9 V2 (vs ++ [.slice A4 n4 q4]) ((L.take (k + 1)).map fun x => (gOf x).flat 0)):=lH (by
           rw [HTS.out,List.map_append];refine TRow.push (base:=wr.heap.size) (V:=.slice VA k vc) (by have h9:=HT6.out; rw [HVL.out] at h9; exact h9) HLB.out HU6.out HK2 HWB.out HW2 (by rw [HVL.out]; exact HQ2))
         have HS7:=lH HT2;have HA7:Hid (∀ x ∈ L.take (k + 1),okx x = true):=lH (fun z hz => by
           rw [HTS.out] at hz;rcases List.mem_append.1 hz with hz | hz
           · exact HA.out z hz
           · rw [List.mem_singleton.1 hz]; exact HO.out)
         clear HQ2 HT2 HK2 HW2;go_wp2_with fail;go_roundw
         case rel => exact ⟨k + 1,_,by omega,by go_num,HA7,HF,HS7⟩
         case measure => (simp [intOf] <;> omega)
       · go_wp2_with fail;refine (cd _).mono ?_;rintro _ w7 ⟨u4,rfl,hU4,h4⟩;obtain ⟨A4,q4,e4,-,-⟩:=hU4.tree.slice;subst e4;have r1:(w7.alloc (.cells #[.int .i64 0,.int .i64 0] 65)).heap[w7.heap.size]? = some (.cells #[.int .i64 0,.int .i64 0] 65 (0,0)):=heap_alloc_new w7 _;have hb:=lH (Tree.hb_row (K:=KT) (C':=#[.int .i64 C9,.int .i64 P9]) ((Since.refl w7).alloc _) (Nat.le_refl _) trivial r1);have y0:(World.setRow (w7.alloc (.cells #[.int .i64 0,.int .i64 0] 65)) w7.heap.size #[.int .i64 C9,.int .i64 P9]).cell? ⟨w7.heap.size,0,none⟩ = some (.int .i64 C9):=hb.out.cell 0 _ rfl;have HS6:=lH (HS0.out.step ((HS.out.step h4).step hb.out.since));clear hU4 h4 HS HR HR9 m0 ho;go_wp2_with (refine RwL.at_store (ty:=65) rfl ?_; refine wpList_store_row rfl 65 _ _ rfl w7.heap.size #[.int .i64 C9,.int .i64 P9] (by rfl) (by rfl) _ _ r1 (f2_info C9 P9) rfl (f2_one C9 P9) ?_; generalize hw8:(w7.alloc (.cells #[.int .i64 0,.int .i64 0] 65)).setRow w7.heap.size #[.int .i64 C9,.int .i64 P9] = w8 at HS6 y0 ⊢; clear hw8 r1 hb)
         go_ret2;exact ⟨_,rfl,TreeS.nil _,HS6.out⟩
     · obtain rfl:l0 = k:=by omega
       have ht:L.take l0 = L:=by rw [HL0.out,List.take_length]
       rw [ht] at HA;obtain ⟨x,hx,hn⟩:=HBD.out;have h9:=HA.out x hx;rw [hn] at h9;cases h9
 · have t1:decide ((0:Int) < (m:Int)) = true:=decide_eq_true (by have:=HM.out.2; omega);have t2:decide (0 < m) = true:=decide_eq_true (by have:=HM.out.2; omega);have HPT:=lH hpt;clear hpt;refine (c1 _ _ HX.out).mono ?_;rintro _ w1 ⟨rfl,h1⟩;clear HX;replace HS:=lH (HS.out.step h1);replace HBX:=lH (HBX.out.since h1);replace HP:=lH (SlR.since HP.out h1);clear b0 b1 b2 b3 h1;obtain ⟨-,b0,b1,b2,b3⟩:=HBX.out;go_wp2_with fail;refine (rleaf_mk 0 5 ⟨#[]⟩ _).mono ?_;rintro _ w2 ⟨v2,rfl,t2,h2⟩;obtain ⟨A0,Q0,e2,-,-⟩:=t2.slice;replace e2:v2 = .slice A0 1 Q0:=e2;subst e2;clear t2;replace HS:=lH (HS.out.step h2);replace HBX:=lH (HBX.out.since h2);replace HP:=lH (SlR.since HP.out h2);clear b0 b1 b2 b3 h2;obtain ⟨-,b0,b1,b2,b3⟩:=HBX.out;go_wp2_with fail;refine (c2 _ _ HP.out).mono ?_;rintro _ w3 ⟨rfl,h3⟩;replace HS:=lH (HS.out.step h3);replace HBX:=lH (HBX.out.since h3);replace HP:=lH (SlR.since HP.out h3);clear b0 b1 b2 b3 h3;obtain ⟨-,b0,b1,b2,b3⟩:=HBX.out;go_wp2_with fail;refine (rleaf_mk 0 6 pb _).mono ?_;rintro _ w4 ⟨v4,rfl,t4,h4⟩;obtain ⟨AP,QP,e4,-,-⟩:=t4.slice;replace e4:v4 = .slice AP 1 QP:=e4;subst e4;have TP:Hid (TreeS w4 (.slice AP 1 QP) ((F.prim 0 pt pb .nil).flat 0)):=lH (by rw [HPT.out]; exact t4);clear t4 HPT;replace HS:=lH (HS.out.step h4);replace HBX:=lH (HBX.out.since h4);replace HP:=lH (SlR.since HP.out h4);clear b0 b1 b2 b3 h4;obtain ⟨-,b0,b1,b2,b3⟩:=HBX.out;clear HP HM;go_wp2_with fail;refine (d1 _).mono ?_;rintro _ w5 ⟨u1,rfl,hU,h5⟩;obtain ⟨A5,q5,e5,-,-⟩:=SlR.slice hU;subst e5;obtain ⟨l0,hl0⟩:∃ n,n = L.length:=⟨_,rfl⟩
   rw [<- hl0] at hU ⊢;have HL0:=lH hl0;clear hl0;replace HS:=lH (HS.out.step h5);replace HBX:=lH (HBX.out.since h5);clear b0 b1 b2 b3 h5;obtain ⟨-,b0,b1,b2,b3⟩:=HBX.out;have hsq:=(Since.refl w5).alloc (.cells #[.int .i64 0,.int .i64 0] 65);have r1:(w5.alloc (.cells #[.int .i64 0,.int .i64 0] 65)).heap[w5.heap.size]? = some (.cells #[.int .i64 0,.int .i64 0] 65 (0,0)):=heap_alloc_new w5 _;have hb:=lH (hb_row (K:=KT) (C':=#[.int .i64 C,.int .i64 P]) ((Since.refl w5).alloc _) (Nat.le_refl _) trivial r1);have y0:=hb.out.cell 0 _ rfl;replace HS:=lH (HS.out.step hb.out.since);replace HBX:=lH (HBX.out.since hb.out.since);have HU:=lH (SlR.since hU hb.out.since);clear hU hsq;have hm:l0 <= 1000:=by rw [HL0.out]; exact HMM.out
   clear TP b0 b1 b2 b3 HBX;go_wp2_with (refine RwL.at_store (ty:=65) rfl ?_; refine wpList_store_row rfl 65 _ _ rfl w5.heap.size #[.int .i64 C,.int .i64 P] (by rfl) (by rfl) _ _ r1 (f2_info C P) rfl (f2_one C P) ?_; generalize (w5.alloc (.cells #[.int .i64 0,.int .i64 0] 65)).setRow w5.heap.size #[.int .i64 C,.int .i64 P] = w6 at HS HU y0 ⊢; clear r1 hb)
   clear y0;have HS0:=HS;clear HS;go_loopw [11,12] (fun V i wr => ∃ (k:Nat) (vs:List Value),k <= l0 /\ i = .int .i64 (k:Int) /\ Hid (∀ x ∈ L.take k,okx x = true) /\ Hid (TRow w6 wr V vs ((L.take k).map fun x => (gOf x).flat 0)) /\ Hid (Since w6 wr)) (fun _ i _ => l0 - (intOf i).toNat)
   case atStart => exact ⟨0,[],Nat.zero_le _,rfl,lH (by simp),lH (TRow.nil _ _),lH (Since.refl w6)⟩
   case round =>
     obtain ⟨k,vs,hk,rfl,HA,HR,HS⟩:=hrel;obtain ⟨VA,vc,rfl,-⟩:=HR.out.val;have hvl:vs.length = k:=by rw [HR.out.len,List.length_map,List.length_take,Nat.min_eq_left (by rw [<- HL0.out]; exact hk)]
     have HVL:=lH hvl;rw [hvl];have HR9:=lH (show Rw.Rows wr w6.heap.size (([]:List Row) ++ ⟨75,1,.slice VA k vc,k,vs⟩ :: []) by have h9:=HR.out.row; rw [hvl] at h9; exact h9);clear hvl
     by_cases hlt:k < l0
     · obtain ⟨x,hx⟩:∃ x,L[k]? = some x:=⟨_,List.getElem?_eq_getElem (by rw [<- HL0.out]; exact hlt)⟩
       obtain ⟨b,o,c9,hv,f1,f2,f3,f4⟩:=SlR.form HU.out (by rw [<- HL0.out]; omega);obtain ⟨rfl,-,rfl⟩:=Value.slice.inj hv;have m0:=(Below.cell HS.out (p:=⟨b,o + k,none⟩) f3).trans (f4 k (.string x) (by rw [List.getElem?_map,hx]; rfl));have hmem:=List.mem_of_getElem? hx;have hdd:=HDD.out x hmem;have hts:=Att.take_snoc L k x hx;have HTS:=lH hts;have i1:(0:Int) <= (k:Int):=by omega
       have i2:(k:Int) < (l0:Int):=by omega
       clear hx hv f1 f2 f3 f4 hts hmem;rcases hdd with ⟨ho,cd⟩ | ⟨ho,C9,P9,hC9,cd⟩
       · have HO:=lH ho;clear ho;go_wp2_with fail;refine (cd _).mono ?_;rintro _ w7 ⟨u4,rfl,hU4,h4⟩;obtain ⟨A4,q4,e4,-,-⟩:=hU4.tree.slice;obtain ⟨n4,hn4⟩:∃ n,n = ((gOf x).flat 0).length:=⟨_,rfl⟩
         rw [<- hn4] at e4;subst e4;have r1:(w7.alloc (.cells #[.int .i64 0,.int .i64 0] 65)).heap[w7.heap.size]? = some (.cells #[.int .i64 0,.int .i64 0] 65 (0,0)):=heap_alloc_new w7 _;have hb:=lH (Tree.hb_row (K:=KT) (C':=#[.int .i64 0,.int .i64 0]) ((Since.refl w7).alloc _) (Nat.le_refl _) trivial r1);have y0:(World.setRow (w7.alloc (.cells #[.int .i64 0,.int .i64 0] 65)) w7.heap.size #[.int .i64 0,.int .i64 0]).cell? ⟨w7.heap.size,0,none⟩ = some (.int .i64 0):=hb.out.cell 0 _ rfl;have HS6:=lH ((HS.out.step h4).step hb.out.since);have HT6:=lH ((HR.out.since h4).since hb.out.since);have HR6:=lH (Rw.Rows.since (Rw.Rows.since HR9.out h4) hb.out.since);have HU6:=lH (hU4.since hb.out.since);have HB1:=lH (show k + 1 <= maxLen by unfold maxLen; omega);have HB2:=lH (show (k + 1) * 24 <= 140737488355328 by omega);have HLB:=lH (show ∀ g,(Value.slice VA k vc).ownBlock = some g -> g < wr.heap.size from fun g hg => (World.ownsRow.lt HR9.out.get g hg).2);have HWB:=lH (show wr.heap.size <= ((w7.alloc (.cells #[.int .i64 0,.int .i64 0] 65)).setRow w7.heap.size #[.int .i64 0,.int .i64 0]).heap.size from Nat.le_trans (Below.size h4) (Below.size hb.out.since));clear hU4 h4 HS HR HR9 m0 hn4;go_wp2_with (first
           | (refine RwL.at_store (ty:=65) rfl ?_; refine wpList_store_row rfl 65 _ _ rfl w7.heap.size #[.int .i64 0,.int .i64 0] (by rfl) (by rfl) _ _ r1 (f2_info 0 0) rfl (f2_one 0 0) ?_; generalize hw8:(w7.alloc (.cells #[.int .i64 0,.int .i64 0] 65)).setRow w7.heap.size #[.int .i64 0,.int .i64 0] = w8 at HS6 HT6 HR6 HU6 HWB y0 ⊢; clear hw8 r1 hb)
           | (at_builtin; refine app_rows2 elemTr rfl _ _ (by rfl) w6 w8 _ rfl [] [] _ k _ (by rfl) HR6.out HS6.out #[.slice A4 n4 q4] 1 1 (by rfl) rfl (slice_one A4 n4 q4) HB1.out HB2.out ?_; intro V2 w9 HQ2 HT2 HK2 HW2))
         have HF:Hid (TRow w6 w9 V2 (vs ++ [.slice A4 n4 q4]) ((L.take (k + 1)).map fun x => (gOf x).flat 0)):=lH (by
           rw [HTS.out,List.map_append];refine TRow.push (base:=wr.heap.size) (V:=.slice VA k vc) (by have h9:=HT6.out; rw [HVL.out] at h9; exact h9) HLB.out HU6.out HK2 HWB.out HW2 (by rw [HVL.out]; exact HQ2))
         have HS7:=lH HT2;have HA7:Hid (∀ x ∈ L.take (k + 1),okx x = true):=lH (fun z hz => by
           rw [HTS.out] at hz;rcases List.mem_append.1 hz with hz | hz
           · exact HA.out z hz
           · rw [List.mem_singleton.1 hz]; exact HO.out)
         clear HQ2 HT2 HK2 HW2;go_wp2_with fail;go_roundw
         case rel => exact ⟨k + 1,_,by omega,by go_num,HA7,HF,HS7⟩
         case measure => (simp [intOf] <;> omega)
       · go_wp2_with fail;refine (cd _).mono ?_;rintro _ w7 ⟨u4,rfl,hU4,h4⟩;obtain ⟨A4,q4,e4,-,-⟩:=hU4.tree.slice;subst e4;have r1:(w7.alloc (.cells #[.int .i64 0,.int .i64 0] 65)).heap[w7.heap.size]? = some (.cells #[.int .i64 0,.int .i64 0] 65 (0,0)):=heap_alloc_new w7 _;have hb:=lH (Tree.hb_row (K:=KT) (C':=#[.int .i64 C9,.int .i64 P9]) ((Since.refl w7).alloc _) (Nat.le_refl _) trivial r1);have y0:(World.setRow (w7.alloc (.cells #[.int .i64 0,.int .i64 0] 65)) w7.heap.size #[.int .i64 C9,.int .i64 P9]).cell? ⟨w7.heap.size,0,none⟩ = some (.int .i64 C9):=hb.out.cell 0 _ rfl;have HS6:=lH (HS0.out.step ((HS.out.step h4).step hb.out.since));clear hU4 h4 HS HR HR9 m0 ho;go_wp2_with (refine RwL.at_store (ty:=65) rfl ?_; refine wpList_store_row rfl 65 _ _ rfl w7.heap.size #[.int .i64 C9,.int .i64 P9] (by rfl) (by rfl) _ _ r1 (f2_info C9 P9) rfl (f2_one C9 P9) ?_; generalize hw8:(w7.alloc (.cells #[.int .i64 0,.int .i64 0] 65)).setRow w7.heap.size #[.int .i64 C9,.int .i64 P9] = w8 at HS6 y0 ⊢; clear hw8 r1 hb)
         go_ret2;exact ⟨_,rfl,TreeS.nil _,HS6.out⟩
     · obtain rfl:l0 = k:=by omega
       have ht:L.take l0 = L:=by rw [HL0.out,List.take_length]
       rw [ht] at HA;obtain ⟨x,hx,hn⟩:=HBD.out;have h9:=HA.out x hx;rw [hn] at h9;cases h9
end Pk
namespace Pk
open Tlv Tree Strs Rw
theorem renc_no (xs ps:List Int) (key attrs:ByteArray) (N:List Nd) (c1:RdM 67 xs ps key attrs N false):RdP 28 xs ps key attrs (.tuple #[.string ⟨#[]⟩,.int .i64 1]):=by
 intro w a b ha hb;obtain ⟨A,c,rfl,-,-⟩:=ha.slice;obtain ⟨B,d,rfl,-,-⟩:=hb.slice;obtain ⟨n,hn⟩:∃ n,n = xs.length:=⟨_,rfl⟩
 obtain ⟨m,hm⟩:∃ n,n = ps.length:=⟨_,rfl⟩
 rw [<- hn] at ha ⊢;rw [<- hm] at hb ⊢;have hs0:=(Since.refl w).alloc (.cells #[.slice A n c,.slice B m d,.string key,.string attrs] 46);have HX:=lH (SlR.since ha hs0);have HP:=lH (SlR.since hb hs0);have HS:=lH hs0;have HBX:=lH (BX.new w (.slice A n c) (.slice B m d) key attrs 46);have HM:=lH (And.intro hn hm);obtain ⟨-,b0,b1,b2,b3⟩:=HBX.out;clear ha hb hs0 hn hm
 go_enter Tryz.func28,Tryz.ntmps28
 go_wp2_with fail;refine (c1 _ _ _ HX.out HP.out).mono ?_;rintro _ w1 ⟨v1,rfl,t1,h1⟩;obtain ⟨A1,q1,rfl,-,-⟩:=t1.slice;replace HS:=lH (HS.out.step h1);clear h1 t1 HBX b0 b1 b2 b3;go_wp2_with fail;go_ret2;exact ⟨rfl,HS.out⟩
theorem renc_yes (xs ps:List Int) (key attrs:ByteArray) (N:List Nd) (c1:RdM 67 xs ps key attrs N true) (X:ByteArray) (E:Int) (c2:RdT 58 N (fun v => #[v]) (.tuple #[.string X,.int .i64 E])):RdP 28 xs ps key attrs (.tuple #[.string X,.int .i64 E]):=by
 intro w a b ha hb;obtain ⟨A,c,rfl,-,-⟩:=ha.slice;obtain ⟨B,d,rfl,-,-⟩:=hb.slice;obtain ⟨n,hn⟩:∃ n,n = xs.length:=⟨_,rfl⟩
 obtain ⟨m,hm⟩:∃ n,n = ps.length:=⟨_,rfl⟩
 rw [<- hn] at ha ⊢;rw [<- hm] at hb ⊢;have hs0:=(Since.refl w).alloc (.cells #[.slice A n c,.slice B m d,.string key,.string attrs] 46);have HX:=lH (SlR.since ha hs0);have HP:=lH (SlR.since hb hs0);have HS:=lH hs0;have HBX:=lH (BX.new w (.slice A n c) (.slice B m d) key attrs 46);have HM:=lH (And.intro hn hm);obtain ⟨-,b0,b1,b2,b3⟩:=HBX.out;clear ha hb hs0 hn hm
 go_enter Tryz.func28,Tryz.ntmps28
 go_wp2_with fail;refine (c1 _ _ _ HX.out HP.out).mono ?_;rintro _ w1 ⟨v1,rfl,t1,h1⟩;obtain ⟨A1,q1,rfl,-,-⟩:=t1.slice;obtain ⟨n1,hn1⟩:∃ n,n = N.length:=⟨_,rfl⟩
 rw [<- hn1] at t1 ⊢;have HT:=lH t1;replace HS:=lH (HS.out.step h1);clear h1 t1 HBX b0 b1 b2 b3 hn1;go_wp2_with fail;refine c2.calls0 HT.out ?_;intro w2 h2;replace HS:=lH (HS.out.step h2);clear h2;go_wp2_with fail;go_ret2;exact ⟨rfl,HS.out⟩
end Pk
end Go.Proofs.YtpanhhjkecebkaaGreat
