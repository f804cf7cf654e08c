import Derived.Test.YtpanhhjkecebkaaGreatPt46
set_option maxRecDepth 100000
namespace Go.Proofs.YtpanhhjkecebkaaGreat
open Go.RowKit
namespace Pk
open Tlv Tree Strs Rw
set_option maxHeartbeats 16000000 in
theorem proper3_1 (N0 N1 N2:List Nd) (y0 y1 y2:Nd) (hy0:N0[0]? = some y0) (hy1:N1[0]? = some y1) (hy2:N2[0]? = some y2) (_c3:Mak 66 #[.int .i64 0] (.string ⟨#[0]⟩)) (q1:false = tagsB y0.c y0.t 0 [2]):RdQ 70 [N0,N1,N2] false:=by
 have Q1:=lH q1;clear q1;intro w P hP;obtain ⟨bp,op,cp,e1,lp,hp⟩:=hP.form (by show 0 < 3; omega);replace e1:P = .slice (some ⟨bp,op,none⟩) 3 cp:=e1;subst e1;have HP:=lH hp;clear hP hp;obtain ⟨z0,m0,T0⟩:=HP.out 0 N0 rfl;obtain ⟨z1,m1,T1⟩:=HP.out 1 N1 rfl;obtain ⟨z2,m2,T2⟩:=HP.out 2 N2 rfl;rw [Nat.add_zero] at m0;replace T0:=lH T0;replace T1:=lH T1;replace T2:=lH T2;obtain ⟨b0,o0,d0,f0,-,-,l0,g0⟩:=T0.out.form (List.getElem?_eq_some_iff.1 hy0).1;obtain ⟨k0,-,-,-,g4,-⟩:=g0 0 y0 hy0;have F0:=lH (fst_tree T0.out hy0);have F1:=lH (fst_tree T1.out hy1);have F2:=lH (fst_tree T2.out hy2);obtain ⟨p0,hp0⟩:∃ n,n = N0.length:=⟨_,rfl⟩
 have x0:(0:Int) < (p0:Int):=by have:=(List.getElem?_eq_some_iff.1 hy0).1; omega
 have x00:0 < p0:=by omega
 rw [<- hp0] at f0;subst f0;obtain ⟨A1,d1,e1,-,-⟩:=T1.out.slice;obtain ⟨p1,hp1⟩:∃ n,n = N1.length:=⟨_,rfl⟩
 rw [<- hp1] at e1;subst e1;have HP1:=lH hp1;have HPF:=lH (show PF w b0 o0 y0.d bp (op + 2) z2 from ⟨l0,by rw [Nat.zero_mul] at g4; exact g4,lp,m2⟩);clear HP g0 g4 l0 lp hp0 hp1
 go_enter Tryz.func70,Tryz.ntmps70
 go_wp2_with fail
 go_quiet (fail)
 have HB:Hid (Since w (w.drewN nq)):=lH (Att.belowN w nq);go_wp2_with fail;refine RegW.start (fun W' => Hid (Since w W') /\ W'.cell? ⟨b0,o0 + 3,none⟩ = some (.string y0.d) /\ W'.cell? ⟨bp,op + 2,none⟩ = some z2) 57 (by kernel_rfl) ⟨lH (HB.out.step (drew_since2 _)),HPF.out.at_ (HB.out.step (drew_since2 _))⟩ (fun hHeld => ?_);replace HB:=lH (HB.out.step (drew_since2 _));clear m0 m1 m2;refine RegW.tk 0 rfl ?_;try simp only [RegW.p]
 refine RegW.only (i:=1) rfl (by kernel_rfl) (fun K hK => ?_);go_simp;refine hK.out _ _ ⟨lH (HB.out.alloc (.cells #[.int .i64 2] 3)),HPF.out.at_ (HB.out.alloc _)⟩ (fun hHeld => ?_);replace HB:=lH (HB.out.alloc (.cells #[.int .i64 2] 3));clear hK K;try simp only [RegW.p]
 refine RegW.only (i:=2) rfl (by kernel_rfl) (fun K hK => ?_);go_simp;go_at_call 69;refine (is_rd _ _ 0 [2] (by decide) _ Q1.out _ _ _ (F0.out.since HB.out) (tags_lit _ 2)).mono ?_;rintro _ w3 ⟨rfl,h3⟩;replace HB:=lH (HB.out.step h3);clear h3;refine hK.out _ _ ⟨HB,HPF.out.at_ HB.out⟩ (fun hHeld => ?_);clear hK K;try simp only [RegW.p]
 refine RegW.tk 3 rfl ?_;try simp only [RegW.p]
 refine RegW.tu 4 rfl (RegW.tu 5 rfl (RegW.tu 6 rfl (RegW.tu 7 rfl (RegW.tu 8 rfl (RegW.tu 9 rfl ?_)))));try simp only [RegW.p]
 refine RegW.tk 10 rfl ?_;try simp only [RegW.p]
 refine RegW.tk 11 rfl ?_;try simp only [RegW.p]
 refine RegW.tu 12 rfl (RegW.tu 13 rfl (RegW.tu 14 rfl ?_));try simp only [RegW.p]
 refine RegW.tk 15 rfl ?_;try simp only [RegW.p]
 refine RegW.tk 16 rfl ?_;try simp only [RegW.p]
 refine RegW.tu 17 rfl (RegW.tu 18 rfl (RegW.tu 19 rfl ?_));try simp only [RegW.p]
 refine RegW.tk 20 rfl ?_;try simp only [RegW.p]
 refine RegW.tk 21 rfl ?_;try simp only [RegW.p]
 refine RegW.tu 22 rfl (RegW.tu 23 rfl (RegW.tu 24 rfl (RegW.tu 25 rfl ?_)));try simp only [RegW.p]
 refine RegW.tk 26 rfl ?_;try simp only [RegW.p]
 refine RegW.tk 27 rfl ?_;try simp only [RegW.p]
 refine RegW.tu 28 rfl (RegW.tu 29 rfl (RegW.tu 30 rfl (RegW.tu 31 rfl ?_)));try simp only [RegW.p]
 refine RegW.tk 32 rfl ?_;try simp only [RegW.p]
 refine RegW.tk 33 rfl ?_;try simp only [RegW.p]
 refine RegW.tu 34 rfl (RegW.tu 35 rfl (RegW.tu 36 rfl ?_));try simp only [RegW.p]
 refine RegW.tk 37 rfl ?_;try simp only [RegW.p]
 refine RegW.tk 38 rfl ?_;try simp only [RegW.p]
 refine RegW.tu 39 rfl (RegW.tu 40 rfl (RegW.tu 41 rfl (RegW.tu 42 rfl (RegW.tu 43 rfl (RegW.tu 44 rfl (RegW.tu 45 rfl (RegW.tu 46 rfl (RegW.tu 47 rfl (RegW.tu 48 rfl (RegW.tu 49 rfl (RegW.tu 50 rfl (RegW.tu 51 rfl (RegW.tu 52 rfl (RegW.tu 53 rfl (RegW.tu 54 rfl (RegW.tu 55 rfl ?_))))))))))))))));try simp only [RegW.p]
 refine RegW.tk 56 rfl ?_;try simp only [RegW.p]
 refine RegW.last rfl (by kernel_rfl) (by kernel_rfl) ?_;clear hHeld;go_wp2_with fail;go_ret;exact ⟨rfl,HB.out⟩
set_option maxHeartbeats 16000000 in
theorem proper3_2 (N0 N1 N2:List Nd) (y0 y1 y2:Nd) (hy0:N0[0]? = some y0) (hy1:N1[0]? = some y1) (hy2:N2[0]? = some y2) (c3:Mak 66 #[.int .i64 0] (.string ⟨#[0]⟩)) (q1:true = tagsB y0.c y0.t 0 [2]) (t1:(y0.d.toList == [0]) = false):RdQ 70 [N0,N1,N2] false:=by
 have Q1:=lH q1;clear q1;intro w P hP;obtain ⟨bp,op,cp,e1,lp,hp⟩:=hP.form (by show 0 < 3; omega);replace e1:P = .slice (some ⟨bp,op,none⟩) 3 cp:=e1;subst e1;have HP:=lH hp;clear hP hp;obtain ⟨z0,m0,T0⟩:=HP.out 0 N0 rfl;obtain ⟨z1,m1,T1⟩:=HP.out 1 N1 rfl;obtain ⟨z2,m2,T2⟩:=HP.out 2 N2 rfl;rw [Nat.add_zero] at m0;replace T0:=lH T0;replace T1:=lH T1;replace T2:=lH T2;obtain ⟨b0,o0,d0,f0,-,-,l0,g0⟩:=T0.out.form (List.getElem?_eq_some_iff.1 hy0).1;obtain ⟨k0,-,-,-,g4,-⟩:=g0 0 y0 hy0;have F0:=lH (fst_tree T0.out hy0);have F1:=lH (fst_tree T1.out hy1);have F2:=lH (fst_tree T2.out hy2);obtain ⟨p0,hp0⟩:∃ n,n = N0.length:=⟨_,rfl⟩
 have x0:(0:Int) < (p0:Int):=by have:=(List.getElem?_eq_some_iff.1 hy0).1; omega
 have x00:0 < p0:=by omega
 rw [<- hp0] at f0;subst f0;obtain ⟨A1,d1,e1,-,-⟩:=T1.out.slice;obtain ⟨p1,hp1⟩:∃ n,n = N1.length:=⟨_,rfl⟩
 rw [<- hp1] at e1;subst e1;have HP1:=lH hp1;have HPF:=lH (show PF w b0 o0 y0.d bp (op + 2) z2 from ⟨l0,by rw [Nat.zero_mul] at g4; exact g4,lp,m2⟩);clear HP g0 g4 l0 lp hp0 hp1
 go_enter Tryz.func70,Tryz.ntmps70
 go_wp2_with fail
 go_quiet (fail)
 have HB:Hid (Since w (w.drewN nq)):=lH (Att.belowN w nq);go_wp2_with fail;refine RegW.start (fun W' => Hid (Since w W') /\ W'.cell? ⟨b0,o0 + 3,none⟩ = some (.string y0.d) /\ W'.cell? ⟨bp,op + 2,none⟩ = some z2) 57 (by kernel_rfl) ⟨lH (HB.out.step (drew_since2 _)),HPF.out.at_ (HB.out.step (drew_since2 _))⟩ (fun hHeld => ?_);replace HB:=lH (HB.out.step (drew_since2 _));clear m0 m1 m2;refine RegW.tk 0 rfl ?_;try simp only [RegW.p]
 refine RegW.only (i:=1) rfl (by kernel_rfl) (fun K hK => ?_);go_simp;refine hK.out _ _ ⟨lH (HB.out.alloc (.cells #[.int .i64 2] 3)),HPF.out.at_ (HB.out.alloc _)⟩ (fun hHeld => ?_);replace HB:=lH (HB.out.alloc (.cells #[.int .i64 2] 3));clear hK K;try simp only [RegW.p]
 refine RegW.only (i:=2) rfl (by kernel_rfl) (fun K hK => ?_);go_simp;go_at_call 69;refine (is_rd _ _ 0 [2] (by decide) _ Q1.out _ _ _ (F0.out.since HB.out) (tags_lit _ 2)).mono ?_;rintro _ w3 ⟨rfl,h3⟩;replace HB:=lH (HB.out.step h3);clear h3;refine hK.out _ _ ⟨HB,HPF.out.at_ HB.out⟩ (fun hHeld => ?_);clear hK K;try simp only [RegW.p]
 refine RegW.tk 3 rfl ?_;try simp only [RegW.p]
 refine RegW.tk 4 rfl ?_;try simp only [RegW.p]
 refine RegW.tk 5 rfl ?_;try simp only [RegW.p]
 refine RegW.tk 6 rfl ?_;try simp only [RegW.p]
 refine RegW.tk 7 rfl ?_;try simp only [RegW.p]
 refine RegW.only (i:=8) rfl (by kernel_rfl) (fun K hK => ?_);go_simp;go_at_call 66;refine c3.calls0 ?_;intro w4 h4;replace HB:=lH (HB.out.step h4);clear h4;refine hK.out _ _ ⟨HB,HPF.out.at_ HB.out⟩ (fun hHeld => ?_);clear hK K;try simp only [RegW.p]
 refine RegW.tk 9 rfl ?_;try simp only [RegW.p]
 refine RegW.tk 10 rfl ?_;try simp only [RegW.p]
 refine RegW.tk 11 rfl ?_;try simp only [RegW.p]
 refine RegW.tu 12 rfl (RegW.tu 13 rfl (RegW.tu 14 rfl ?_));try simp only [RegW.p]
 refine RegW.tk 15 rfl ?_;try simp only [RegW.p]
 refine RegW.tk 16 rfl ?_;try simp only [RegW.p]
 refine RegW.tu 17 rfl (RegW.tu 18 rfl (RegW.tu 19 rfl ?_));try simp only [RegW.p]
 refine RegW.tk 20 rfl ?_;try simp only [RegW.p]
 refine RegW.tk 21 rfl ?_;try simp only [RegW.p]
 refine RegW.tu 22 rfl (RegW.tu 23 rfl (RegW.tu 24 rfl (RegW.tu 25 rfl ?_)));try simp only [RegW.p]
 refine RegW.tk 26 rfl ?_;try simp only [RegW.p]
 refine RegW.tk 27 rfl ?_;try simp only [RegW.p]
 refine RegW.tu 28 rfl (RegW.tu 29 rfl (RegW.tu 30 rfl (RegW.tu 31 rfl ?_)));try simp only [RegW.p]
 refine RegW.tk 32 rfl ?_;try simp only [RegW.p]
 refine RegW.tk 33 rfl ?_;try simp only [RegW.p]
 refine RegW.tu 34 rfl (RegW.tu 35 rfl (RegW.tu 36 rfl ?_));try simp only [RegW.p]
 refine RegW.tk 37 rfl ?_;try simp only [RegW.p]
 refine RegW.tk 38 rfl ?_;try simp only [RegW.p]
 refine RegW.tu 39 rfl (RegW.tu 40 rfl (RegW.tu 41 rfl (RegW.tu 42 rfl (RegW.tu 43 rfl (RegW.tu 44 rfl (RegW.tu 45 rfl (RegW.tu 46 rfl (RegW.tu 47 rfl (RegW.tu 48 rfl (RegW.tu 49 rfl (RegW.tu 50 rfl (RegW.tu 51 rfl (RegW.tu 52 rfl (RegW.tu 53 rfl (RegW.tu 54 rfl (RegW.tu 55 rfl ?_))))))))))))))));try simp only [RegW.p]
 refine RegW.tk 56 rfl ?_;try simp only [RegW.p]
 refine RegW.last rfl (by kernel_rfl) (by kernel_rfl) ?_;clear hHeld;go_wp2_with fail;go_ret;exact ⟨rfl,HB.out⟩
set_option maxHeartbeats 16000000 in
theorem proper3_3 (N0 N1 N2:List Nd) (y0 y1 y2:Nd) (hy0:N0[0]? = some y0) (hy1:N1[0]? = some y1) (hy2:N2[0]? = some y2) (c3:Mak 66 #[.int .i64 0] (.string ⟨#[0]⟩)) (q1:true = tagsB y0.c y0.t 0 [2]) (t1:(y0.d.toList == [0]) = true) (q2:false = tagsB y1.c y1.t 0 [16]):RdQ 70 [N0,N1,N2] false:=by
 have Q1:=lH q1;have Q2:=lH q2;clear q1 q2;intro w P hP;obtain ⟨bp,op,cp,e1,lp,hp⟩:=hP.form (by show 0 < 3; omega);replace e1:P = .slice (some ⟨bp,op,none⟩) 3 cp:=e1;subst e1;have HP:=lH hp;clear hP hp;obtain ⟨z0,m0,T0⟩:=HP.out 0 N0 rfl;obtain ⟨z1,m1,T1⟩:=HP.out 1 N1 rfl;obtain ⟨z2,m2,T2⟩:=HP.out 2 N2 rfl;rw [Nat.add_zero] at m0;replace T0:=lH T0;replace T1:=lH T1;replace T2:=lH T2;obtain ⟨b0,o0,d0,f0,-,-,l0,g0⟩:=T0.out.form (List.getElem?_eq_some_iff.1 hy0).1;obtain ⟨k0,-,-,-,g4,-⟩:=g0 0 y0 hy0;have F0:=lH (fst_tree T0.out hy0);have F1:=lH (fst_tree T1.out hy1);have F2:=lH (fst_tree T2.out hy2);obtain ⟨p0,hp0⟩:∃ n,n = N0.length:=⟨_,rfl⟩
 have x0:(0:Int) < (p0:Int):=by have:=(List.getElem?_eq_some_iff.1 hy0).1; omega
 have x00:0 < p0:=by omega
 rw [<- hp0] at f0;subst f0;obtain ⟨A1,d1,e1,-,-⟩:=T1.out.slice;obtain ⟨p1,hp1⟩:∃ n,n = N1.length:=⟨_,rfl⟩
 rw [<- hp1] at e1;subst e1;have HP1:=lH hp1;have HPF:=lH (show PF w b0 o0 y0.d bp (op + 2) z2 from ⟨l0,by rw [Nat.zero_mul] at g4; exact g4,lp,m2⟩);clear HP g0 g4 l0 lp hp0 hp1
 go_enter Tryz.func70,Tryz.ntmps70
 go_wp2_with fail
 go_quiet (fail)
 have HB:Hid (Since w (w.drewN nq)):=lH (Att.belowN w nq);go_wp2_with fail;refine RegW.start (fun W' => Hid (Since w W') /\ W'.cell? ⟨b0,o0 + 3,none⟩ = some (.string y0.d) /\ W'.cell? ⟨bp,op + 2,none⟩ = some z2) 57 (by kernel_rfl) ⟨lH (HB.out.step (drew_since2 _)),HPF.out.at_ (HB.out.step (drew_since2 _))⟩ (fun hHeld => ?_);replace HB:=lH (HB.out.step (drew_since2 _));clear m0 m1 m2;refine RegW.tk 0 rfl ?_;try simp only [RegW.p]
 refine RegW.only (i:=1) rfl (by kernel_rfl) (fun K hK => ?_);go_simp;refine hK.out _ _ ⟨lH (HB.out.alloc (.cells #[.int .i64 2] 3)),HPF.out.at_ (HB.out.alloc _)⟩ (fun hHeld => ?_);replace HB:=lH (HB.out.alloc (.cells #[.int .i64 2] 3));clear hK K;try simp only [RegW.p]
 refine RegW.only (i:=2) rfl (by kernel_rfl) (fun K hK => ?_);go_simp;go_at_call 69;refine (is_rd _ _ 0 [2] (by decide) _ Q1.out _ _ _ (F0.out.since HB.out) (tags_lit _ 2)).mono ?_;rintro _ w3 ⟨rfl,h3⟩;replace HB:=lH (HB.out.step h3);clear h3;refine hK.out _ _ ⟨HB,HPF.out.at_ HB.out⟩ (fun hHeld => ?_);clear hK K;try simp only [RegW.p]
 refine RegW.tk 3 rfl ?_;try simp only [RegW.p]
 refine RegW.tk 4 rfl ?_;try simp only [RegW.p]
 refine RegW.tk 5 rfl ?_;try simp only [RegW.p]
 refine RegW.tk 6 rfl ?_;try simp only [RegW.p]
 refine RegW.tk 7 rfl ?_;try simp only [RegW.p]
 refine RegW.only (i:=8) rfl (by kernel_rfl) (fun K hK => ?_);go_simp;go_at_call 66;refine c3.calls0 ?_;intro w4 h4;replace HB:=lH (HB.out.step h4);clear h4;refine hK.out _ _ ⟨HB,HPF.out.at_ HB.out⟩ (fun hHeld => ?_);clear hK K;try simp only [RegW.p]
 refine RegW.tk 9 rfl ?_;try simp only [RegW.p]
 refine RegW.tk 10 rfl ?_;try simp only [RegW.p]
 refine RegW.tk 11 rfl ?_;try simp only [RegW.p]
 refine RegW.tk 12 rfl ?_;try simp only [RegW.p]
 refine RegW.only (i:=13) rfl (by kernel_rfl) (fun K hK => ?_);go_simp;refine hK.out _ _ ⟨lH (HB.out.alloc (.cells #[.int .i64 16] 3)),HPF.out.at_ (HB.out.alloc _)⟩ (fun hHeld => ?_);replace HB:=lH (HB.out.alloc (.cells #[.int .i64 16] 3));clear hK K;try simp only [RegW.p]
 refine RegW.only (i:=14) rfl (by kernel_rfl) (fun K hK => ?_);go_simp;go_at_call 69;refine (is_rd _ _ 0 [16] (by decide) _ Q2.out _ _ _ (F1.out.since HB.out) (tags_lit _ 16)).mono ?_;rintro _ w5 ⟨rfl,h5⟩;replace HB:=lH (HB.out.step h5);clear h5;refine hK.out _ _ ⟨HB,HPF.out.at_ HB.out⟩ (fun hHeld => ?_);clear hK K;try simp only [RegW.p]
 refine RegW.tk 15 rfl ?_;try simp only [RegW.p]
 refine RegW.tk 16 rfl ?_;try simp only [RegW.p]
 refine RegW.tu 17 rfl (RegW.tu 18 rfl (RegW.tu 19 rfl ?_));try simp only [RegW.p]
 refine RegW.tk 20 rfl ?_;try simp only [RegW.p]
 refine RegW.tk 21 rfl ?_;try simp only [RegW.p]
 refine RegW.tu 22 rfl (RegW.tu 23 rfl (RegW.tu 24 rfl (RegW.tu 25 rfl ?_)));try simp only [RegW.p]
 refine RegW.tk 26 rfl ?_;try simp only [RegW.p]
 refine RegW.tk 27 rfl ?_;try simp only [RegW.p]
 refine RegW.tu 28 rfl (RegW.tu 29 rfl (RegW.tu 30 rfl (RegW.tu 31 rfl ?_)));try simp only [RegW.p]
 refine RegW.tk 32 rfl ?_;try simp only [RegW.p]
 refine RegW.tk 33 rfl ?_;try simp only [RegW.p]
 refine RegW.tu 34 rfl (RegW.tu 35 rfl (RegW.tu 36 rfl ?_));try simp only [RegW.p]
 refine RegW.tk 37 rfl ?_;try simp only [RegW.p]
 refine RegW.tk 38 rfl ?_;try simp only [RegW.p]
 refine RegW.tu 39 rfl (RegW.tu 40 rfl (RegW.tu 41 rfl (RegW.tu 42 rfl (RegW.tu 43 rfl (RegW.tu 44 rfl (RegW.tu 45 rfl (RegW.tu 46 rfl (RegW.tu 47 rfl (RegW.tu 48 rfl (RegW.tu 49 rfl (RegW.tu 50 rfl (RegW.tu 51 rfl (RegW.tu 52 rfl (RegW.tu 53 rfl (RegW.tu 54 rfl (RegW.tu 55 rfl ?_))))))))))))))));try simp only [RegW.p]
 refine RegW.tk 56 rfl ?_;try simp only [RegW.p]
 refine RegW.last rfl (by kernel_rfl) (by kernel_rfl) ?_;clear hHeld;go_wp2_with fail;go_ret;exact ⟨rfl,HB.out⟩
set_option maxHeartbeats 16000000 in
theorem proper3_4 (N0 N1 N2:List Nd) (y0 y1 y2:Nd) (hy0:N0[0]? = some y0) (hy1:N1[0]? = some y1) (hy2:N2[0]? = some y2) (c3:Mak 66 #[.int .i64 0] (.string ⟨#[0]⟩)) (q1:true = tagsB y0.c y0.t 0 [2]) (t1:(y0.d.toList == [0]) = true) (q2:true = tagsB y1.c y1.t 0 [16]) (h5:N1.length ≠ 3):RdQ 70 [N0,N1,N2] false:=by
 have Q1:=lH q1;have Q2:=lH q2;have H5:=lH h5;clear q1 q2 h5;intro w P hP;obtain ⟨bp,op,cp,e1,lp,hp⟩:=hP.form (by show 0 < 3; omega);replace e1:P = .slice (some ⟨bp,op,none⟩) 3 cp:=e1;subst e1;have HP:=lH hp;clear hP hp;obtain ⟨z0,m0,T0⟩:=HP.out 0 N0 rfl;obtain ⟨z1,m1,T1⟩:=HP.out 1 N1 rfl;obtain ⟨z2,m2,T2⟩:=HP.out 2 N2 rfl;rw [Nat.add_zero] at m0;replace T0:=lH T0;replace T1:=lH T1;replace T2:=lH T2;obtain ⟨b0,o0,d0,f0,-,-,l0,g0⟩:=T0.out.form (List.getElem?_eq_some_iff.1 hy0).1;obtain ⟨k0,-,-,-,g4,-⟩:=g0 0 y0 hy0;have F0:=lH (fst_tree T0.out hy0);have F1:=lH (fst_tree T1.out hy1);have F2:=lH (fst_tree T2.out hy2);obtain ⟨p0,hp0⟩:∃ n,n = N0.length:=⟨_,rfl⟩
 have x0:(0:Int) < (p0:Int):=by have:=(List.getElem?_eq_some_iff.1 hy0).1; omega
 have x00:0 < p0:=by omega
 rw [<- hp0] at f0;subst f0;obtain ⟨A1,d1,e1,-,-⟩:=T1.out.slice;obtain ⟨p1,hp1⟩:∃ n,n = N1.length:=⟨_,rfl⟩
 rw [<- hp1] at e1;subst e1;have HP1:=lH hp1;have HPF:=lH (show PF w b0 o0 y0.d bp (op + 2) z2 from ⟨l0,by rw [Nat.zero_mul] at g4; exact g4,lp,m2⟩);clear HP g0 g4 l0 lp hp0 hp1;have t2:((p1:Int) == 3) = false:=beq_eq_false_iff_ne.2 (by have h6:=HP1.out; have h7:=H5.out; omega)
 go_enter Tryz.func70,Tryz.ntmps70
 go_wp2_with fail
 go_quiet (fail)
 have HB:Hid (Since w (w.drewN nq)):=lH (Att.belowN w nq);go_wp2_with fail;refine RegW.start (fun W' => Hid (Since w W') /\ W'.cell? ⟨b0,o0 + 3,none⟩ = some (.string y0.d) /\ W'.cell? ⟨bp,op + 2,none⟩ = some z2) 57 (by kernel_rfl) ⟨lH (HB.out.step (drew_since2 _)),HPF.out.at_ (HB.out.step (drew_since2 _))⟩ (fun hHeld => ?_);replace HB:=lH (HB.out.step (drew_since2 _));clear m0 m1 m2;refine RegW.tk 0 rfl ?_;try simp only [RegW.p]
 refine RegW.only (i:=1) rfl (by kernel_rfl) (fun K hK => ?_);go_simp;refine hK.out _ _ ⟨lH (HB.out.alloc (.cells #[.int .i64 2] 3)),HPF.out.at_ (HB.out.alloc _)⟩ (fun hHeld => ?_);replace HB:=lH (HB.out.alloc (.cells #[.int .i64 2] 3));clear hK K;try simp only [RegW.p]
 refine RegW.only (i:=2) rfl (by kernel_rfl) (fun K hK => ?_);go_simp;go_at_call 69;refine (is_rd _ _ 0 [2] (by decide) _ Q1.out _ _ _ (F0.out.since HB.out) (tags_lit _ 2)).mono ?_;rintro _ w3 ⟨rfl,h3⟩;replace HB:=lH (HB.out.step h3);clear h3;refine hK.out _ _ ⟨HB,HPF.out.at_ HB.out⟩ (fun hHeld => ?_);clear hK K;try simp only [RegW.p]
 refine RegW.tk 3 rfl ?_;try simp only [RegW.p]
 refine RegW.tk 4 rfl ?_;try simp only [RegW.p]
 refine RegW.tk 5 rfl ?_;try simp only [RegW.p]
 refine RegW.tk 6 rfl ?_;try simp only [RegW.p]
 refine RegW.tk 7 rfl ?_;try simp only [RegW.p]
 refine RegW.only (i:=8) rfl (by kernel_rfl) (fun K hK => ?_);go_simp;go_at_call 66;refine c3.calls0 ?_;intro w4 h4;replace HB:=lH (HB.out.step h4);clear h4;refine hK.out _ _ ⟨HB,HPF.out.at_ HB.out⟩ (fun hHeld => ?_);clear hK K;try simp only [RegW.p]
 refine RegW.tk 9 rfl ?_;try simp only [RegW.p]
 refine RegW.tk 10 rfl ?_;try simp only [RegW.p]
 refine RegW.tk 11 rfl ?_;try simp only [RegW.p]
 refine RegW.tk 12 rfl ?_;try simp only [RegW.p]
 refine RegW.only (i:=13) rfl (by kernel_rfl) (fun K hK => ?_);go_simp;refine hK.out _ _ ⟨lH (HB.out.alloc (.cells #[.int .i64 16] 3)),HPF.out.at_ (HB.out.alloc _)⟩ (fun hHeld => ?_);replace HB:=lH (HB.out.alloc (.cells #[.int .i64 16] 3));clear hK K;try simp only [RegW.p]
 refine RegW.only (i:=14) rfl (by kernel_rfl) (fun K hK => ?_);go_simp;go_at_call 69;refine (is_rd _ _ 0 [16] (by decide) _ Q2.out _ _ _ (F1.out.since HB.out) (tags_lit _ 16)).mono ?_;rintro _ w5 ⟨rfl,h5⟩;replace HB:=lH (HB.out.step h5);clear h5;refine hK.out _ _ ⟨HB,HPF.out.at_ HB.out⟩ (fun hHeld => ?_);clear hK K;try simp only [RegW.p]
 refine RegW.tk 15 rfl ?_;try simp only [RegW.p]
 refine RegW.tk 16 rfl ?_;try simp only [RegW.p]
 refine RegW.tk 17 rfl ?_;try simp only [RegW.p]
 refine RegW.tk 18 rfl ?_;try simp only [RegW.p]
 refine RegW.tk 19 rfl ?_;try simp only [RegW.p]
 refine RegW.tk 20 rfl ?_;try simp only [RegW.p]
 refine RegW.tk 21 rfl ?_;try simp only [RegW.p]
 refine RegW.tu 22 rfl (RegW.tu 23 rfl (RegW.tu 24 rfl (RegW.tu 25 rfl ?_)));try simp only [RegW.p]
 refine RegW.tk 26 rfl ?_;try simp only [RegW.p]
 refine RegW.tk 27 rfl ?_;try simp only [RegW.p]
 refine RegW.tu 28 rfl (RegW.tu 29 rfl (RegW.tu 30 rfl (RegW.tu 31 rfl ?_)));try simp only [RegW.p]
 refine RegW.tk 32 rfl ?_;try simp only [RegW.p]
 refine RegW.tk 33 rfl ?_;try simp only [RegW.p]
 refine RegW.tu 34 rfl (RegW.tu 35 rfl (RegW.tu 36 rfl ?_));try simp only [RegW.p]
 refine RegW.tk 37 rfl ?_;try simp only [RegW.p]
 refine RegW.tk 38 rfl ?_;try simp only [RegW.p]
 refine RegW.tu 39 rfl (RegW.tu 40 rfl (RegW.tu 41 rfl (RegW.tu 42 rfl (RegW.tu 43 rfl (RegW.tu 44 rfl (RegW.tu 45 rfl (RegW.tu 46 rfl (RegW.tu 47 rfl (RegW.tu 48 rfl (RegW.tu 49 rfl (RegW.tu 50 rfl (RegW.tu 51 rfl (RegW.tu 52 rfl (RegW.tu 53 rfl (RegW.tu 54 rfl (RegW.tu 55 rfl ?_))))))))))))))));try simp only [RegW.p]
 refine RegW.tk 56 rfl ?_;try simp only [RegW.p]
 refine RegW.last rfl (by kernel_rfl) (by kernel_rfl) ?_;clear hHeld;go_wp2_with fail;go_ret;exact ⟨rfl,HB.out⟩
end Pk
end Go.Proofs.YtpanhhjkecebkaaGreat
