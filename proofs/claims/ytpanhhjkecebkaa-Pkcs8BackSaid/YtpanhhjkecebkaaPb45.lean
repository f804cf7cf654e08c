import Derived.Test.YtpanhhjkecebkaaPb42
set_option maxRecDepth 100000
namespace Go.Proofs.Ytpanhhjkecebkaa
open Go.RowKit
namespace Pk
open Tlv Tree Strs Rw
set_option maxHeartbeats 16000000 in
theorem proper4_1 (N0 N1 N2 N3:List Nd) (y0 y1 y2 y3:Nd) (hy0:N0[0]? = some y0) (hy1:N1[0]? = some y1) (hy2:N2[0]? = some y2) (hy3:N3[0]? = some y3) (_c3:Mak 13 #[.int .i64 0] (.string ⟨#[0]⟩)) (q1:false = tagsB y0.c y0.t 0 [2]):RdQ 17 [N0,N1,N2,N3] false:=by
 have Q1:=lH q1
 clear q1
 intro w P hP
 obtain ⟨bp,op,cp,e1,lp,hp⟩:=hP.form (by show 0 < 4; omega)
 replace e1:P = .slice (some ⟨bp,op,none⟩) 4 cp:=e1
 subst e1
 have HP:=lH hp
 clear hP hp
 obtain ⟨z0,m0,T0⟩:=HP.out 0 N0 rfl
 obtain ⟨z1,m1,T1⟩:=HP.out 1 N1 rfl
 obtain ⟨z2,m2,T2⟩:=HP.out 2 N2 rfl
 obtain ⟨z3,m3,T3⟩:=HP.out 3 N3 rfl
 rw [Nat.add_zero] at m0
 replace T0:=lH T0
 replace T1:=lH T1
 replace T2:=lH T2
 replace T3:=lH T3
 obtain ⟨b0,o0,d0,f0,-,-,l0,g0⟩:=T0.out.form (List.getElem?_eq_some_iff.1 hy0).1
 obtain ⟨k0,-,-,-,g4,-⟩:=g0 0 y0 hy0
 have F0:=lH (fst_tree T0.out hy0)
 have F1:=lH (fst_tree T1.out hy1)
 have F2:=lH (fst_tree T2.out hy2)
 have F3:=lH (fst_tree T3.out hy3)
 obtain ⟨p0,hp0⟩:∃ n,n = N0.length:=⟨_,rfl⟩
 have x0:(0:Int) < (p0:Int):=by have:=(List.getElem?_eq_some_iff.1 hy0).1; omega
 have x00:0 < p0:=by omega
 rw [<- hp0] at f0
 subst f0
 obtain ⟨A1,d1,e1,-,-⟩:=T1.out.slice
 obtain ⟨p1,hp1⟩:∃ n,n = N1.length:=⟨_,rfl⟩
 rw [<- hp1] at e1
 subst e1
 have HP1:=lH hp1
 obtain ⟨A3,d3,e3,-,-⟩:=T3.out.slice
 obtain ⟨p3,hp3⟩:∃ n,n = N3.length:=⟨_,rfl⟩
 rw [<- hp3] at e3
 subst e3
 have HP3:=lH hp3
 have HPF:=lH (show PF w b0 o0 y0.d bp (op + 3) (.slice A3 p3 d3) from ⟨l0,by rw [Nat.zero_mul] at g4; exact g4,lp,m3⟩)
 clear HP g0 g4 l0 lp hp0 hp1 hp3
 go_enter Try.func17,Try.ntmps17
 go_wp2_with fail
 go_quiet (fail)
 have HB:Hid (Since w (w.drewN nq)):=lH (Att.belowN w nq)
 go_wp2_with fail
 refine RegW.start (fun W' => Hid (Since w W') /\ W'.cell? ⟨b0,o0 + 3,none⟩ = some (.string y0.d) /\ W'.cell? ⟨bp,op + 3,none⟩ = some (.slice A3 p3 d3)) 57 (by kernel_rfl) ⟨lH (HB.out.step (drew_since2 _)),HPF.out.at_ (HB.out.step (drew_since2 _))⟩ (fun hHeld => ?_)
 replace HB:=lH (HB.out.step (drew_since2 _))
 clear m0 m1 m2
 refine RegW.take (i:=0) (v:=?_) rfl (by kernel_rfl) (by kernel_rfl) (by kernel_rfl) (by kernel_rfl) (fun _ _ _ h => h) (Or.inl ⟨by kernel_rfl, ?_⟩) (by assumption) ?_
 rotate_left
 · intro w hSw
   go_split_ands
   go_simp
   try with_reducible rfl
 try simp only [Act.put,List.setIfInBounds_toArray]
 refine RegW.only (i:=1) rfl (by kernel_rfl) (fun K hK => ?_)
 go_simp
 refine hK.out _ _ ⟨lH (HB.out.alloc (.cells #[.int .i64 2] 3)),HPF.out.at_ (HB.out.alloc _)⟩ (fun hHeld => ?_)
 replace HB:=lH (HB.out.alloc (.cells #[.int .i64 2] 3))
 clear hK K
 try simp only [Act.put]
 try simp only [List.setIfInBounds_toArray]
 try simp only [List.set_cons_succ]
 try simp only [List.set_cons_zero]
 refine RegW.only (i:=2) rfl (by kernel_rfl) (fun K hK => ?_)
 go_simp
 go_at_call 16
 refine (is_rd _ _ 0 [2] (by decide) _ Q1.out _ _ _ (F0.out.since HB.out) (tags_lit _ 2)).mono ?_
 rintro _ w3 ⟨rfl,h3⟩
 replace HB:=lH (HB.out.step h3)
 clear h3
 refine hK.out _ _ ⟨HB,HPF.out.at_ HB.out⟩ (fun hHeld => ?_)
 clear hK K
 try simp only [Act.put]
 try simp only [List.setIfInBounds_toArray]
 try simp only [List.set_cons_succ]
 try simp only [List.set_cons_zero]
 refine RegW.take (i:=3) (v:=?_) rfl (by kernel_rfl) (by kernel_rfl) (by kernel_rfl) (by kernel_rfl) (fun _ _ _ h => h) (Or.inl ⟨by kernel_rfl, ?_⟩) (by assumption) ?_
 rotate_left
 · intro w hSw
   go_split_ands
   go_simp
   try with_reducible rfl
 try simp only [Act.put,List.setIfInBounds_toArray]
 refine RegW.take (i:=4) (v:=undef) rfl (by kernel_rfl) (by kernel_rfl) (by kernel_rfl) (by kernel_rfl) (fun _ _ _ h => h) (Or.inr ⟨by kernel_rfl,rfl⟩) (by assumption) ?_
 try simp only [Act.put]
 refine RegW.take (i:=5) (v:=undef) rfl (by kernel_rfl) (by kernel_rfl) (by kernel_rfl) (by kernel_rfl) (fun _ _ _ h => h) (Or.inr ⟨by kernel_rfl,rfl⟩) (by assumption) ?_
 try simp only [Act.put]
 refine RegW.take (i:=6) (v:=undef) rfl (by kernel_rfl) (by kernel_rfl) (by kernel_rfl) (by kernel_rfl) (fun _ _ _ h => h) (Or.inr ⟨by kernel_rfl,rfl⟩) (by assumption) ?_
 try simp only [Act.put]
 refine RegW.take (i:=7) (v:=undef) rfl (by kernel_rfl) (by kernel_rfl) (by kernel_rfl) (by kernel_rfl) (fun _ _ _ h => h) (Or.inr ⟨by kernel_rfl,rfl⟩) (by assumption) ?_
 try simp only [Act.put]
 refine RegW.take (i:=8) (v:=undef) rfl (by kernel_rfl) (by kernel_rfl) (by kernel_rfl) (by kernel_rfl) (fun _ _ _ h => h) (Or.inr ⟨by kernel_rfl,rfl⟩) (by assumption) ?_
 try simp only [Act.put]
 refine RegW.take (i:=9) (v:=undef) rfl (by kernel_rfl) (by kernel_rfl) (by kernel_rfl) (by kernel_rfl) (fun _ _ _ h => h) (Or.inr ⟨by kernel_rfl,rfl⟩) (by assumption) ?_
 try simp only [Act.put]
 refine RegW.take (i:=10) (v:=?_) rfl (by kernel_rfl) (by kernel_rfl) (by kernel_rfl) (by kernel_rfl) (fun _ _ _ h => h) (Or.inl ⟨by kernel_rfl, ?_⟩) (by assumption) ?_
 rotate_left
 · intro w hSw
   go_split_ands
   go_simp
   try with_reducible rfl
 try simp only [Act.put]
 refine RegW.take (i:=11) (v:=?_) rfl (by kernel_rfl) (by kernel_rfl) (by kernel_rfl) (by kernel_rfl) (fun _ _ _ h => h) (Or.inl ⟨by kernel_rfl, ?_⟩) (by assumption) ?_
 rotate_left
 · intro w hSw
   go_split_ands
   go_simp
   try with_reducible rfl
 try simp only [Act.put]
 refine RegW.take (i:=12) (v:=undef) rfl (by kernel_rfl) (by kernel_rfl) (by kernel_rfl) (by kernel_rfl) (fun _ _ _ h => h) (Or.inr ⟨by kernel_rfl,rfl⟩) (by assumption) ?_
 try simp only [Act.put]
 refine RegW.take (i:=13) (v:=undef) rfl (by kernel_rfl) (by kernel_rfl) (by kernel_rfl) (by kernel_rfl) (fun _ _ _ h => h) (Or.inr ⟨by kernel_rfl,rfl⟩) (by assumption) ?_
 try simp only [Act.put]
 refine RegW.take (i:=14) (v:=undef) rfl (by kernel_rfl) (by kernel_rfl) (by kernel_rfl) (by kernel_rfl) (fun _ _ _ h => h) (Or.inr ⟨by kernel_rfl,rfl⟩) (by assumption) ?_
 try simp only [Act.put]
 refine RegW.take (i:=15) (v:=?_) rfl (by kernel_rfl) (by kernel_rfl) (by kernel_rfl) (by kernel_rfl) (fun _ _ _ h => h) (Or.inl ⟨by kernel_rfl, ?_⟩) (by assumption) ?_
 rotate_left
 · intro w hSw
   go_split_ands
   go_simp
   try with_reducible rfl
 try simp only [Act.put]
 refine RegW.take (i:=16) (v:=?_) rfl (by kernel_rfl) (by kernel_rfl) (by kernel_rfl) (by kernel_rfl) (fun _ _ _ h => h) (Or.inl ⟨by kernel_rfl, ?_⟩) (by assumption) ?_
 rotate_left
 · intro w hSw
   go_split_ands
   go_simp
   try with_reducible rfl
 try simp only [Act.put]
 refine RegW.take (i:=17) (v:=undef) rfl (by kernel_rfl) (by kernel_rfl) (by kernel_rfl) (by kernel_rfl) (fun _ _ _ h => h) (Or.inr ⟨by kernel_rfl,rfl⟩) (by assumption) ?_
 try simp only [Act.put]
 refine RegW.take (i:=18) (v:=undef) rfl (by kernel_rfl) (by kernel_rfl) (by kernel_rfl) (by kernel_rfl) (fun _ _ _ h => h) (Or.inr ⟨by kernel_rfl,rfl⟩) (by assumption) ?_
 try simp only [Act.put]
 refine RegW.take (i:=19) (v:=undef) rfl (by kernel_rfl) (by kernel_rfl) (by kernel_rfl) (by kernel_rfl) (fun _ _ _ h => h) (Or.inr ⟨by kernel_rfl,rfl⟩) (by assumption) ?_
 try simp only [Act.put]
 refine RegW.take (i:=20) (v:=?_) rfl (by kernel_rfl) (by kernel_rfl) (by kernel_rfl) (by kernel_rfl) (fun _ _ _ h => h) (Or.inl ⟨by kernel_rfl, ?_⟩) (by assumption) ?_
 rotate_left
 · intro w hSw
   go_split_ands
   go_simp
   try with_reducible rfl
 try simp only [Act.put]
 refine RegW.take (i:=21) (v:=?_) rfl (by kernel_rfl) (by kernel_rfl) (by kernel_rfl) (by kernel_rfl) (fun _ _ _ h => h) (Or.inl ⟨by kernel_rfl, ?_⟩) (by assumption) ?_
 rotate_left
 · intro w hSw
   go_split_ands
   go_simp
   try with_reducible rfl
 try simp only [Act.put]
 refine RegW.take (i:=22) (v:=undef) rfl (by kernel_rfl) (by kernel_rfl) (by kernel_rfl) (by kernel_rfl) (fun _ _ _ h => h) (Or.inr ⟨by kernel_rfl,rfl⟩) (by assumption) ?_
 try simp only [Act.put]
 refine RegW.take (i:=23) (v:=undef) rfl (by kernel_rfl) (by kernel_rfl) (by kernel_rfl) (by kernel_rfl) (fun _ _ _ h => h) (Or.inr ⟨by kernel_rfl,rfl⟩) (by assumption) ?_
 try simp only [Act.put]
 refine RegW.take (i:=24) (v:=undef) rfl (by kernel_rfl) (by kernel_rfl) (by kernel_rfl) (by kernel_rfl) (fun _ _ _ h => h) (Or.inr ⟨by kernel_rfl,rfl⟩) (by assumption) ?_
 try simp only [Act.put]
 refine RegW.take (i:=25) (v:=undef) rfl (by kernel_rfl) (by kernel_rfl) (by kernel_rfl) (by kernel_rfl) (fun _ _ _ h => h) (Or.inr ⟨by kernel_rfl,rfl⟩) (by assumption) ?_
 try simp only [Act.put]
 refine RegW.take (i:=26) (v:=?_) rfl (by kernel_rfl) (by kernel_rfl) (by kernel_rfl) (by kernel_rfl) (fun _ _ _ h => h) (Or.inl ⟨by kernel_rfl, ?_⟩) (by assumption) ?_
 rotate_left
 · intro w hSw
   go_split_ands
   go_simp
   try with_reducible rfl
 try simp only [Act.put]
 refine RegW.take (i:=27) (v:=?_) rfl (by kernel_rfl) (by kernel_rfl) (by kernel_rfl) (by kernel_rfl) (fun _ _ _ h => h) (Or.inl ⟨by kernel_rfl, ?_⟩) (by assumption) ?_
 rotate_left
 · intro w hSw
   go_split_ands
   go_simp
   try with_reducible rfl
 try simp only [Act.put]
 refine RegW.take (i:=28) (v:=undef) rfl (by kernel_rfl) (by kernel_rfl) (by kernel_rfl) (by kernel_rfl) (fun _ _ _ h => h) (Or.inr ⟨by kernel_rfl,rfl⟩) (by assumption) ?_
 try simp only [Act.put]
 refine RegW.take (i:=29) (v:=undef) rfl (by kernel_rfl) (by kernel_rfl) (by kernel_rfl) (by kernel_rfl) (fun _ _ _ h => h) (Or.inr ⟨by kernel_rfl,rfl⟩) (by assumption) ?_
 try simp only [Act.put]
 refine RegW.take (i:=30) (v:=undef) rfl (by kernel_rfl) (by kernel_rfl) (by kernel_rfl) (by kernel_rfl) (fun _ _ _ h => h) (Or.inr ⟨by kernel_rfl,rfl⟩) (by assumption) ?_
 try simp only [Act.put]
 refine RegW.take (i:=31) (v:=undef) rfl (by kernel_rfl) (by kernel_rfl) (by kernel_rfl) (by kernel_rfl) (fun _ _ _ h => h) (Or.inr ⟨by kernel_rfl,rfl⟩) (by assumption) ?_
 try simp only [Act.put]
 refine RegW.take (i:=32) (v:=?_) rfl (by kernel_rfl) (by kernel_rfl) (by kernel_rfl) (by kernel_rfl) (fun _ _ _ h => h) (Or.inl ⟨by kernel_rfl, ?_⟩) (by assumption) ?_
 rotate_left
 · intro w hSw
   go_split_ands
   go_simp
   try with_reducible rfl
 try simp only [Act.put]
 refine RegW.take (i:=33) (v:=?_) rfl (by kernel_rfl) (by kernel_rfl) (by kernel_rfl) (by kernel_rfl) (fun _ _ _ h => h) (Or.inl ⟨by kernel_rfl, ?_⟩) (by assumption) ?_
 rotate_left
 · intro w hSw
   go_split_ands
   go_simp
   try with_reducible rfl
 try simp only [Act.put]
 refine RegW.take (i:=34) (v:=undef) rfl (by kernel_rfl) (by kernel_rfl) (by kernel_rfl) (by kernel_rfl) (fun _ _ _ h => h) (Or.inr ⟨by kernel_rfl,rfl⟩) (by assumption) ?_
 try simp only [Act.put]
 refine RegW.take (i:=35) (v:=undef) rfl (by kernel_rfl) (by kernel_rfl) (by kernel_rfl) (by kernel_rfl) (fun _ _ _ h => h) (Or.inr ⟨by kernel_rfl,rfl⟩) (by assumption) ?_
 try simp only [Act.put]
 refine RegW.take (i:=36) (v:=undef) rfl (by kernel_rfl) (by kernel_rfl) (by kernel_rfl) (by kernel_rfl) (fun _ _ _ h => h) (Or.inr ⟨by kernel_rfl,rfl⟩) (by assumption) ?_
 try simp only [Act.put]
 refine RegW.take (i:=37) (v:=?_) rfl (by kernel_rfl) (by kernel_rfl) (by kernel_rfl) (by kernel_rfl) (fun _ _ _ h => h) (Or.inl ⟨by kernel_rfl, ?_⟩) (by assumption) ?_
 rotate_left
 · intro w hSw
   go_split_ands
   go_simp
   try with_reducible rfl
 try simp only [Act.put]
 refine RegW.take (i:=38) (v:=?_) rfl (by kernel_rfl) (by kernel_rfl) (by kernel_rfl) (by kernel_rfl) (fun _ _ _ h => h) (Or.inl ⟨by kernel_rfl, ?_⟩) (by assumption) ?_
 rotate_left
 · intro w hSw
   go_split_ands
   go_simp
   try with_reducible rfl
 try simp only [Act.put]
 refine RegW.take (i:=39) (v:=undef) rfl (by kernel_rfl) (by kernel_rfl) (by kernel_rfl) (by kernel_rfl) (fun _ _ _ h => h) (Or.inr ⟨by kernel_rfl,rfl⟩) (by assumption) ?_
 try simp only [Act.put]
 refine RegW.take (i:=40) (v:=undef) rfl (by kernel_rfl) (by kernel_rfl) (by kernel_rfl) (by kernel_rfl) (fun _ _ _ h => h) (Or.inr ⟨by kernel_rfl,rfl⟩) (by assumption) ?_
 try simp only [Act.put]
 refine RegW.take (i:=41) (v:=undef) rfl (by kernel_rfl) (by kernel_rfl) (by kernel_rfl) (by kernel_rfl) (fun _ _ _ h => h) (Or.inr ⟨by kernel_rfl,rfl⟩) (by assumption) ?_
 try simp only [Act.put]
 refine RegW.take (i:=42) (v:=undef) rfl (by kernel_rfl) (by kernel_rfl) (by kernel_rfl) (by kernel_rfl) (fun _ _ _ h => h) (Or.inr ⟨by kernel_rfl,rfl⟩) (by assumption) ?_
 try simp only [Act.put]
 refine RegW.take (i:=43) (v:=undef) rfl (by kernel_rfl) (by kernel_rfl) (by kernel_rfl) (by kernel_rfl) (fun _ _ _ h => h) (Or.inr ⟨by kernel_rfl,rfl⟩) (by assumption) ?_
 try simp only [Act.put]
 refine RegW.take (i:=44) (v:=undef) rfl (by kernel_rfl) (by kernel_rfl) (by kernel_rfl) (by kernel_rfl) (fun _ _ _ h => h) (Or.inr ⟨by kernel_rfl,rfl⟩) (by assumption) ?_
 try simp only [Act.put]
 refine RegW.take (i:=45) (v:=undef) rfl (by kernel_rfl) (by kernel_rfl) (by kernel_rfl) (by kernel_rfl) (fun _ _ _ h => h) (Or.inr ⟨by kernel_rfl,rfl⟩) (by assumption) ?_
 try simp only [Act.put]
 refine RegW.take (i:=46) (v:=undef) rfl (by kernel_rfl) (by kernel_rfl) (by kernel_rfl) (by kernel_rfl) (fun _ _ _ h => h) (Or.inr ⟨by kernel_rfl,rfl⟩) (by assumption) ?_
 try simp only [Act.put]
 refine RegW.take (i:=47) (v:=undef) rfl (by kernel_rfl) (by kernel_rfl) (by kernel_rfl) (by kernel_rfl) (fun _ _ _ h => h) (Or.inr ⟨by kernel_rfl,rfl⟩) (by assumption) ?_
 try simp only [Act.put]
 refine RegW.take (i:=48) (v:=undef) rfl (by kernel_rfl) (by kernel_rfl) (by kernel_rfl) (by kernel_rfl) (fun _ _ _ h => h) (Or.inr ⟨by kernel_rfl,rfl⟩) (by assumption) ?_
 try simp only [Act.put]
 refine RegW.take (i:=49) (v:=undef) rfl (by kernel_rfl) (by kernel_rfl) (by kernel_rfl) (by kernel_rfl) (fun _ _ _ h => h) (Or.inr ⟨by kernel_rfl,rfl⟩) (by assumption) ?_
 try simp only [Act.put]
 refine RegW.take (i:=50) (v:=undef) rfl (by kernel_rfl) (by kernel_rfl) (by kernel_rfl) (by kernel_rfl) (fun _ _ _ h => h) (Or.inr ⟨by kernel_rfl,rfl⟩) (by assumption) ?_
 try simp only [Act.put]
 refine RegW.take (i:=51) (v:=undef) rfl (by kernel_rfl) (by kernel_rfl) (by kernel_rfl) (by kernel_rfl) (fun _ _ _ h => h) (Or.inr ⟨by kernel_rfl,rfl⟩) (by assumption) ?_
 try simp only [Act.put]
 refine RegW.take (i:=52) (v:=undef) rfl (by kernel_rfl) (by kernel_rfl) (by kernel_rfl) (by kernel_rfl) (fun _ _ _ h => h) (Or.inr ⟨by kernel_rfl,rfl⟩) (by assumption) ?_
 try simp only [Act.put]
 refine RegW.take (i:=53) (v:=undef) rfl (by kernel_rfl) (by kernel_rfl) (by kernel_rfl) (by kernel_rfl) (fun _ _ _ h => h) (Or.inr ⟨by kernel_rfl,rfl⟩) (by assumption) ?_
 try simp only [Act.put]
 refine RegW.take (i:=54) (v:=undef) rfl (by kernel_rfl) (by kernel_rfl) (by kernel_rfl) (by kernel_rfl) (fun _ _ _ h => h) (Or.inr ⟨by kernel_rfl,rfl⟩) (by assumption) ?_
 try simp only [Act.put]
 refine RegW.take (i:=55) (v:=undef) rfl (by kernel_rfl) (by kernel_rfl) (by kernel_rfl) (by kernel_rfl) (fun _ _ _ h => h) (Or.inr ⟨by kernel_rfl,rfl⟩) (by assumption) ?_
 try simp only [Act.put]
 refine RegW.take (i:=56) (v:=?_) rfl (by kernel_rfl) (by kernel_rfl) (by kernel_rfl) (by kernel_rfl) (fun _ _ _ h => h) (Or.inl ⟨by kernel_rfl, ?_⟩) (by assumption) ?_
 rotate_left
 · intro w hSw
   go_split_ands
   go_simp
   try with_reducible rfl
 try simp only [Act.put]
 refine RegW.last rfl (by kernel_rfl) (by kernel_rfl) ?_
 clear hHeld
 go_wp2_with fail
 go_ret
 exact ⟨rfl,HB.out⟩
set_option maxHeartbeats 16000000 in
theorem proper4_2 (N0 N1 N2 N3:List Nd) (y0 y1 y2 y3:Nd) (hy0:N0[0]? = some y0) (hy1:N1[0]? = some y1) (hy2:N2[0]? = some y2) (hy3:N3[0]? = some y3) (c3:Mak 13 #[.int .i64 0] (.string ⟨#[0]⟩)) (q1:true = tagsB y0.c y0.t 0 [2]) (t1:(y0.d.toList == [0]) = false):RdQ 17 [N0,N1,N2,N3] false:=by
 have Q1:=lH q1
 clear q1
 intro w P hP
 obtain ⟨bp,op,cp,e1,lp,hp⟩:=hP.form (by show 0 < 4; omega)
 replace e1:P = .slice (some ⟨bp,op,none⟩) 4 cp:=e1
 subst e1
 have HP:=lH hp
 clear hP hp
 obtain ⟨z0,m0,T0⟩:=HP.out 0 N0 rfl
 obtain ⟨z1,m1,T1⟩:=HP.out 1 N1 rfl
 obtain ⟨z2,m2,T2⟩:=HP.out 2 N2 rfl
 obtain ⟨z3,m3,T3⟩:=HP.out 3 N3 rfl
 rw [Nat.add_zero] at m0
 replace T0:=lH T0
 replace T1:=lH T1
 replace T2:=lH T2
 replace T3:=lH T3
 obtain ⟨b0,o0,d0,f0,-,-,l0,g0⟩:=T0.out.form (List.getElem?_eq_some_iff.1 hy0).1
 obtain ⟨k0,-,-,-,g4,-⟩:=g0 0 y0 hy0
 have F0:=lH (fst_tree T0.out hy0)
 have F1:=lH (fst_tree T1.out hy1)
 have F2:=lH (fst_tree T2.out hy2)
 have F3:=lH (fst_tree T3.out hy3)
 obtain ⟨p0,hp0⟩:∃ n,n = N0.length:=⟨_,rfl⟩
 have x0:(0:Int) < (p0:Int):=by have:=(List.getElem?_eq_some_iff.1 hy0).1; omega
 have x00:0 < p0:=by omega
 rw [<- hp0] at f0
 subst f0
 obtain ⟨A1,d1,e1,-,-⟩:=T1.out.slice
 obtain ⟨p1,hp1⟩:∃ n,n = N1.length:=⟨_,rfl⟩
 rw [<- hp1] at e1
 subst e1
 have HP1:=lH hp1
 obtain ⟨A3,d3,e3,-,-⟩:=T3.out.slice
 obtain ⟨p3,hp3⟩:∃ n,n = N3.length:=⟨_,rfl⟩
 rw [<- hp3] at e3
 subst e3
 have HP3:=lH hp3
 have HPF:=lH (show PF w b0 o0 y0.d bp (op + 3) (.slice A3 p3 d3) from ⟨l0,by rw [Nat.zero_mul] at g4; exact g4,lp,m3⟩)
 clear HP g0 g4 l0 lp hp0 hp1 hp3
 go_enter Try.func17,Try.ntmps17
 go_wp2_with fail
 go_quiet (fail)
 have HB:Hid (Since w (w.drewN nq)):=lH (Att.belowN w nq)
 go_wp2_with fail
 refine RegW.start (fun W' => Hid (Since w W') /\ W'.cell? ⟨b0,o0 + 3,none⟩ = some (.string y0.d) /\ W'.cell? ⟨bp,op + 3,none⟩ = some (.slice A3 p3 d3)) 57 (by kernel_rfl) ⟨lH (HB.out.step (drew_since2 _)),HPF.out.at_ (HB.out.step (drew_since2 _))⟩ (fun hHeld => ?_)
 replace HB:=lH (HB.out.step (drew_since2 _))
 clear m0 m1 m2
 refine RegW.take (i:=0) (v:=?_) rfl (by kernel_rfl) (by kernel_rfl) (by kernel_rfl) (by kernel_rfl) (fun _ _ _ h => h) (Or.inl ⟨by kernel_rfl, ?_⟩) (by assumption) ?_
 rotate_left
 · intro w hSw
   go_split_ands
   go_simp
   try with_reducible rfl
 try simp only [Act.put,List.setIfInBounds_toArray]
 refine RegW.only (i:=1) rfl (by kernel_rfl) (fun K hK => ?_)
 go_simp
 refine hK.out _ _ ⟨lH (HB.out.alloc (.cells #[.int .i64 2] 3)),HPF.out.at_ (HB.out.alloc _)⟩ (fun hHeld => ?_)
 replace HB:=lH (HB.out.alloc (.cells #[.int .i64 2] 3))
 clear hK K
 try simp only [Act.put]
 try simp only [List.setIfInBounds_toArray]
 try simp only [List.set_cons_succ]
 try simp only [List.set_cons_zero]
 refine RegW.only (i:=2) rfl (by kernel_rfl) (fun K hK => ?_)
 go_simp
 go_at_call 16
 refine (is_rd _ _ 0 [2] (by decide) _ Q1.out _ _ _ (F0.out.since HB.out) (tags_lit _ 2)).mono ?_
 rintro _ w3 ⟨rfl,h3⟩
 replace HB:=lH (HB.out.step h3)
 clear h3
 refine hK.out _ _ ⟨HB,HPF.out.at_ HB.out⟩ (fun hHeld => ?_)
 clear hK K
 try simp only [Act.put]
 try simp only [List.setIfInBounds_toArray]
 try simp only [List.set_cons_succ]
 try simp only [List.set_cons_zero]
 refine RegW.take (i:=3) (v:=?_) rfl (by kernel_rfl) (by kernel_rfl) (by kernel_rfl) (by kernel_rfl) (fun _ _ _ h => h) (Or.inl ⟨by kernel_rfl, ?_⟩) (by assumption) ?_
 rotate_left
 · intro w hSw
   go_split_ands
   go_simp
   try with_reducible rfl
 try simp only [Act.put,List.setIfInBounds_toArray]
 refine RegW.take (i:=4) (v:=?_) rfl (by kernel_rfl) (by kernel_rfl) (by kernel_rfl) (by kernel_rfl) (fun _ _ _ h => h) (Or.inl ⟨by kernel_rfl, ?_⟩) (by assumption) ?_
 rotate_left
 · intro w hSw
   go_split_ands
   go_simp
   try with_reducible rfl
 try simp only [Act.put]
 refine RegW.take (i:=5) (v:=?_) rfl (by kernel_rfl) (by kernel_rfl) (by kernel_rfl) (by kernel_rfl) (fun _ _ _ h => h) (Or.inl ⟨by kernel_rfl, ?_⟩) (by assumption) ?_
 rotate_left
 · intro w hSw
   go_split_ands
   go_simp
   try with_reducible rfl
 try simp only [Act.put]
 refine RegW.take (i:=6) (v:=?_) rfl (by kernel_rfl) (by kernel_rfl) (by kernel_rfl) (by kernel_rfl) (fun _ _ _ h => h) (Or.inl ⟨by kernel_rfl, ?_⟩) (by assumption) ?_
 rotate_left
 · intro w hSw
   go_split_ands
   go_simp
   try with_reducible rfl
 try simp only [Act.put]
 refine RegW.take (i:=7) (v:=?_) rfl (by kernel_rfl) (by kernel_rfl) (by kernel_rfl) (by kernel_rfl) (fun _ _ _ h => h) (Or.inl ⟨by kernel_rfl, ?_⟩) (by assumption) ?_
 rotate_left
 · intro w hSw
   go_split_ands
   go_simp
   try with_reducible rfl
 try simp only [Act.put]
 refine RegW.only (i:=8) rfl (by kernel_rfl) (fun K hK => ?_)
 go_simp
 go_at_call 13
 refine c3.calls0 ?_
 intro w4 h4
 replace HB:=lH (HB.out.step h4)
 clear h4
 refine hK.out _ _ ⟨HB,HPF.out.at_ HB.out⟩ (fun hHeld => ?_)
 clear hK K
 try simp only [Act.put]
 try simp only [List.setIfInBounds_toArray]
 try simp only [List.set_cons_succ]
 try simp only [List.set_cons_zero]
 refine RegW.take (i:=9) (v:=?_) rfl (by kernel_rfl) (by kernel_rfl) (by kernel_rfl) (by kernel_rfl) (fun _ _ _ h => h) (Or.inl ⟨by kernel_rfl, ?_⟩) (by assumption) ?_
 rotate_left
 · intro w hSw
   go_split_ands
   go_simp
   try with_reducible rfl
 try simp only [Act.put,List.setIfInBounds_toArray]
 refine RegW.take (i:=10) (v:=?_) rfl (by kernel_rfl) (by kernel_rfl) (by kernel_rfl) (by kernel_rfl) (fun _ _ _ h => h) (Or.inl ⟨by kernel_rfl, ?_⟩) (by assumption) ?_
 rotate_left
 · intro w hSw
   go_split_ands
   go_simp
   try with_reducible rfl
 try simp only [Act.put]
 refine RegW.take (i:=11) (v:=?_) rfl (by kernel_rfl) (by kernel_rfl) (by kernel_rfl) (by kernel_rfl) (fun _ _ _ h => h) (Or.inl ⟨by kernel_rfl, ?_⟩) (by assumption) ?_
 rotate_left
 · intro w hSw
   go_split_ands
   go_simp
   try with_reducible rfl
 try simp only [Act.put]
 refine RegW.take (i:=12) (v:=undef) rfl (by kernel_rfl) (by kernel_rfl) (by kernel_rfl) (by kernel_rfl) (fun _ _ _ h => h) (Or.inr ⟨by kernel_rfl,rfl⟩) (by assumption) ?_
 try simp only [Act.put]
 refine RegW.take (i:=13) (v:=undef) rfl (by kernel_rfl) (by kernel_rfl) (by kernel_rfl) (by kernel_rfl) (fun _ _ _ h => h) (Or.inr ⟨by kernel_rfl,rfl⟩) (by assumption) ?_
 try simp only [Act.put]
 refine RegW.take (i:=14) (v:=undef) rfl (by kernel_rfl) (by kernel_rfl) (by kernel_rfl) (by kernel_rfl) (fun _ _ _ h => h) (Or.inr ⟨by kernel_rfl,rfl⟩) (by assumption) ?_
 try simp only [Act.put]
 refine RegW.take (i:=15) (v:=?_) rfl (by kernel_rfl) (by kernel_rfl) (by kernel_rfl) (by kernel_rfl) (fun _ _ _ h => h) (Or.inl ⟨by kernel_rfl, ?_⟩) (by assumption) ?_
 rotate_left
 · intro w hSw
   go_split_ands
   go_simp
   try with_reducible rfl
 try simp only [Act.put]
 refine RegW.take (i:=16) (v:=?_) rfl (by kernel_rfl) (by kernel_rfl) (by kernel_rfl) (by kernel_rfl) (fun _ _ _ h => h) (Or.inl ⟨by kernel_rfl, ?_⟩) (by assumption) ?_
 rotate_left
 · intro w hSw
   go_split_ands
   go_simp
   try with_reducible rfl
 try simp only [Act.put]
 refine RegW.take (i:=17) (v:=undef) rfl (by kernel_rfl) (by kernel_rfl) (by kernel_rfl) (by kernel_rfl) (fun _ _ _ h => h) (Or.inr ⟨by kernel_rfl,rfl⟩) (by assumption) ?_
 try simp only [Act.put]
 refine RegW.take (i:=18) (v:=undef) rfl (by kernel_rfl) (by kernel_rfl) (by kernel_rfl) (by kernel_rfl) (fun _ _ _ h => h) (Or.inr ⟨by kernel_rfl,rfl⟩) (by assumption) ?_
 try simp only [Act.put]
 refine RegW.take (i:=19) (v:=undef) rfl (by kernel_rfl) (by kernel_rfl) (by kernel_rfl) (by kernel_rfl) (fun _ _ _ h => h) (Or.inr ⟨by kernel_rfl,rfl⟩) (by assumption) ?_
 try simp only [Act.put]
 refine RegW.take (i:=20) (v:=?_) rfl (by kernel_rfl) (by kernel_rfl) (by kernel_rfl) (by kernel_rfl) (fun _ _ _ h => h) (Or.inl ⟨by kernel_rfl, ?_⟩) (by assumption) ?_
 rotate_left
 · intro w hSw
   go_split_ands
   go_simp
   try with_reducible rfl
 try simp only [Act.put]
 refine RegW.take (i:=21) (v:=?_) rfl (by kernel_rfl) (by kernel_rfl) (by kernel_rfl) (by kernel_rfl) (fun _ _ _ h => h) (Or.inl ⟨by kernel_rfl, ?_⟩) (by assumption) ?_
 rotate_left
 · intro w hSw
   go_split_ands
   go_simp
   try with_reducible rfl
 try simp only [Act.put]
 refine RegW.take (i:=22) (v:=undef) rfl (by kernel_rfl) (by kernel_rfl) (by kernel_rfl) (by kernel_rfl) (fun _ _ _ h => h) (Or.inr ⟨by kernel_rfl,rfl⟩) (by assumption) ?_
 try simp only [Act.put]
 refine RegW.take (i:=23) (v:=undef) rfl (by kernel_rfl) (by kernel_rfl) (by kernel_rfl) (by kernel_rfl) (fun _ _ _ h => h) (Or.inr ⟨by kernel_rfl,rfl⟩) (by assumption) ?_
 try simp only [Act.put]
 refine RegW.take (i:=24) (v:=undef) rfl (by kernel_rfl) (by kernel_rfl) (by kernel_rfl) (by kernel_rfl) (fun _ _ _ h => h) (Or.inr ⟨by kernel_rfl,rfl⟩) (by assumption) ?_
 try simp only [Act.put]
 refine RegW.take (i:=25) (v:=undef) rfl (by kernel_rfl) (by kernel_rfl) (by kernel_rfl) (by kernel_rfl) (fun _ _ _ h => h) (Or.inr ⟨by kernel_rfl,rfl⟩) (by assumption) ?_
 try simp only [Act.put]
 refine RegW.take (i:=26) (v:=?_) rfl (by kernel_rfl) (by kernel_rfl) (by kernel_rfl) (by kernel_rfl) (fun _ _ _ h => h) (Or.inl ⟨by kernel_rfl, ?_⟩) (by assumption) ?_
 rotate_left
 · intro w hSw
   go_split_ands
   go_simp
   try with_reducible rfl
 try simp only [Act.put]
 refine RegW.take (i:=27) (v:=?_) rfl (by kernel_rfl) (by kernel_rfl) (by kernel_rfl) (by kernel_rfl) (fun _ _ _ h => h) (Or.inl ⟨by kernel_rfl, ?_⟩) (by assumption) ?_
 rotate_left
 · intro w hSw
   go_split_ands
   go_simp
   try with_reducible rfl
 try simp only [Act.put]
 refine RegW.take (i:=28) (v:=undef) rfl (by kernel_rfl) (by kernel_rfl) (by kernel_rfl) (by kernel_rfl) (fun _ _ _ h => h) (Or.inr ⟨by kernel_rfl,rfl⟩) (by assumption) ?_
 try simp only [Act.put]
 refine RegW.take (i:=29) (v:=undef) rfl (by kernel_rfl) (by kernel_rfl) (by kernel_rfl) (by kernel_rfl) (fun _ _ _ h => h) (Or.inr ⟨by kernel_rfl,rfl⟩) (by assumption) ?_
 try simp only [Act.put]
 refine RegW.take (i:=30) (v:=undef) rfl (by kernel_rfl) (by kernel_rfl) (by kernel_rfl) (by kernel_rfl) (fun _ _ _ h => h) (Or.inr ⟨by kernel_rfl,rfl⟩) (by assumption) ?_
 try simp only [Act.put]
 refine RegW.take (i:=31) (v:=undef) rfl (by kernel_rfl) (by kernel_rfl) (by kernel_rfl) (by kernel_rfl) (fun _ _ _ h => h) (Or.inr ⟨by kernel_rfl,rfl⟩) (by assumption) ?_
 try simp only [Act.put]
 refine RegW.take (i:=32) (v:=?_) rfl (by kernel_rfl) (by kernel_rfl) (by kernel_rfl) (by kernel_rfl) (fun _ _ _ h => h) (Or.inl ⟨by kernel_rfl, ?_⟩) (by assumption) ?_
 rotate_left
 · intro w hSw
   go_split_ands
   go_simp
   try with_reducible rfl
 try simp only [Act.put]
 refine RegW.take (i:=33) (v:=?_) rfl (by kernel_rfl) (by kernel_rfl) (by kernel_rfl) (by kernel_rfl) (fun _ _ _ h => h) (Or.inl ⟨by kernel_rfl, ?_⟩) (by assumption) ?_
 rotate_left
 · intro w hSw
   go_split_ands
   go_simp
   try with_reducible rfl
 try simp only [Act.put]
 refine RegW.take (i:=34) (v:=undef) rfl (by kernel_rfl) (by kernel_rfl) (by kernel_rfl) (by kernel_rfl) (fun _ _ _ h => h) (Or.inr ⟨by kernel_rfl,rfl⟩) (by assumption) ?_
 try simp only [Act.put]
 refine RegW.take (i:=35) (v:=undef) rfl (by kernel_rfl) (by kernel_rfl) (by kernel_rfl) (by kernel_rfl) (fun _ _ _ h => h) (Or.inr ⟨by kernel_rfl,rfl⟩) (by assumption) ?_
 try simp only [Act.put]
 refine RegW.take (i:=36) (v:=undef) rfl (by kernel_rfl) (by kernel_rfl) (by kernel_rfl) (by kernel_rfl) (fun _ _ _ h => h) (Or.inr ⟨by kernel_rfl,rfl⟩) (by assumption) ?_
 try simp only [Act.put]
 refine RegW.take (i:=37) (v:=?_) rfl (by kernel_rfl) (by kernel_rfl) (by kernel_rfl) (by kernel_rfl) (fun _ _ _ h => h) (Or.inl ⟨by kernel_rfl, ?_⟩) (by assumption) ?_
 rotate_left
 · intro w hSw
   go_split_ands
   go_simp
   try with_reducible rfl
 try simp only [Act.put]
 refine RegW.take (i:=38) (v:=?_) rfl (by kernel_rfl) (by kernel_rfl) (by kernel_rfl) (by kernel_rfl) (fun _ _ _ h => h) (Or.inl ⟨by kernel_rfl, ?_⟩) (by assumption) ?_
 rotate_left
 · intro w hSw
   go_split_ands
   go_simp
   try with_reducible rfl
 try simp only [Act.put]
 refine RegW.take (i:=39) (v:=undef) rfl (by kernel_rfl) (by kernel_rfl) (by kernel_rfl) (by kernel_rfl) (fun _ _ _ h => h) (Or.inr ⟨by kernel_rfl,rfl⟩) (by assumption) ?_
 try simp only [Act.put]
 refine RegW.take (i:=40) (v:=undef) rfl (by kernel_rfl) (by kernel_rfl) (by kernel_rfl) (by kernel_rfl) (fun _ _ _ h => h) (Or.inr ⟨by kernel_rfl,rfl⟩) (by assumption) ?_
 try simp only [Act.put]
 refine RegW.take (i:=41) (v:=undef) rfl (by kernel_rfl) (by kernel_rfl) (by kernel_rfl) (by kernel_rfl) (fun _ _ _ h => h) (Or.inr ⟨by kernel_rfl,rfl⟩) (by assumption) ?_
 try simp only [Act.put]
 refine RegW.take (i:=42) (v:=undef) rfl (by kernel_rfl) (by kernel_rfl) (by kernel_rfl) (by kernel_rfl) (fun _ _ _ h => h) (Or.inr ⟨by kernel_rfl,rfl⟩) (by assumption) ?_
 try simp only [Act.put]
 refine RegW.take (i:=43) (v:=undef) rfl (by kernel_rfl) (by kernel_rfl) (by kernel_rfl) (by kernel_rfl) (fun _ _ _ h => h) (Or.inr ⟨by kernel_rfl,rfl⟩) (by assumption) ?_
 try simp only [Act.put]
 refine RegW.take (i:=44) (v:=undef) rfl (by kernel_rfl) (by kernel_rfl) (by kernel_rfl) (by kernel_rfl) (fun _ _ _ h => h) (Or.inr ⟨by kernel_rfl,rfl⟩) (by assumption) ?_
 try simp only [Act.put]
 refine RegW.take (i:=45) (v:=undef) rfl (by kernel_rfl) (by kernel_rfl) (by kernel_rfl) (by kernel_rfl) (fun _ _ _ h => h) (Or.inr ⟨by kernel_rfl,rfl⟩) (by assumption) ?_
 try simp only [Act.put]
 refine RegW.take (i:=46) (v:=undef) rfl (by kernel_rfl) (by kernel_rfl) (by kernel_rfl) (by kernel_rfl) (fun _ _ _ h => h) (Or.inr ⟨by kernel_rfl,rfl⟩) (by assumption) ?_
 try simp only [Act.put]
 refine RegW.take (i:=47) (v:=undef) rfl (by kernel_rfl) (by kernel_rfl) (by kernel_rfl) (by kernel_rfl) (fun _ _ _ h => h) (Or.inr ⟨by kernel_rfl,rfl⟩) (by assumption) ?_
 try simp only [Act.put]
 refine RegW.take (i:=48) (v:=undef) rfl (by kernel_rfl) (by kernel_rfl) (by kernel_rfl) (by kernel_rfl) (fun _ _ _ h => h) (Or.inr ⟨by kernel_rfl,rfl⟩) (by assumption) ?_
 try simp only [Act.put]
 refine RegW.take (i:=49) (v:=undef) rfl (by kernel_rfl) (by kernel_rfl) (by kernel_rfl) (by kernel_rfl) (fun _ _ _ h => h) (Or.inr ⟨by kernel_rfl,rfl⟩) (by assumption) ?_
 try simp only [Act.put]
 refine RegW.take (i:=50) (v:=undef) rfl (by kernel_rfl) (by kernel_rfl) (by kernel_rfl) (by kernel_rfl) (fun _ _ _ h => h) (Or.inr ⟨by kernel_rfl,rfl⟩) (by assumption) ?_
 try simp only [Act.put]
 refine RegW.take (i:=51) (v:=undef) rfl (by kernel_rfl) (by kernel_rfl) (by kernel_rfl) (by kernel_rfl) (fun _ _ _ h => h) (Or.inr ⟨by kernel_rfl,rfl⟩) (by assumption) ?_
 try simp only [Act.put]
 refine RegW.take (i:=52) (v:=undef) rfl (by kernel_rfl) (by kernel_rfl) (by kernel_rfl) (by kernel_rfl) (fun _ _ _ h => h) (Or.inr ⟨by kernel_rfl,rfl⟩) (by assumption) ?_
 try simp only [Act.put]
 refine RegW.take (i:=53) (v:=undef) rfl (by kernel_rfl) (by kernel_rfl) (by kernel_rfl) (by kernel_rfl) (fun _ _ _ h => h) (Or.inr ⟨by kernel_rfl,rfl⟩) (by assumption) ?_
 try simp only [Act.put]
 refine RegW.take (i:=54) (v:=undef) rfl (by kernel_rfl) (by kernel_rfl) (by kernel_rfl) (by kernel_rfl) (fun _ _ _ h => h) (Or.inr ⟨by kernel_rfl,rfl⟩) (by assumption) ?_
 try simp only [Act.put]
 refine RegW.take (i:=55) (v:=undef) rfl (by kernel_rfl) (by kernel_rfl) (by kernel_rfl) (by kernel_rfl) (fun _ _ _ h => h) (Or.inr ⟨by kernel_rfl,rfl⟩) (by assumption) ?_
 try simp only [Act.put]
 refine RegW.take (i:=56) (v:=?_) rfl (by kernel_rfl) (by kernel_rfl) (by kernel_rfl) (by kernel_rfl) (fun _ _ _ h => h) (Or.inl ⟨by kernel_rfl, ?_⟩) (by assumption) ?_
 rotate_left
 · intro w hSw
   go_split_ands
   go_simp
   try with_reducible rfl
 try simp only [Act.put]
 refine RegW.last rfl (by kernel_rfl) (by kernel_rfl) ?_
 clear hHeld
 go_wp2_with fail
 go_ret
 exact ⟨rfl,HB.out⟩
set_option maxHeartbeats 16000000 in
theorem proper4_3 (N0 N1 N2 N3:List Nd) (y0 y1 y2 y3:Nd) (hy0:N0[0]? = some y0) (hy1:N1[0]? = some y1) (hy2:N2[0]? = some y2) (hy3:N3[0]? = some y3) (c3:Mak 13 #[.int .i64 0] (.string ⟨#[0]⟩)) (q1:true = tagsB y0.c y0.t 0 [2]) (t1:(y0.d.toList == [0]) = true) (q2:false = tagsB y1.c y1.t 0 [16]):RdQ 17 [N0,N1,N2,N3] false:=by
 have Q1:=lH q1
 have Q2:=lH q2
 clear q1 q2
 intro w P hP
 obtain ⟨bp,op,cp,e1,lp,hp⟩:=hP.form (by show 0 < 4; omega)
 replace e1:P = .slice (some ⟨bp,op,none⟩) 4 cp:=e1
 subst e1
 have HP:=lH hp
 clear hP hp
 obtain ⟨z0,m0,T0⟩:=HP.out 0 N0 rfl
 obtain ⟨z1,m1,T1⟩:=HP.out 1 N1 rfl
 obtain ⟨z2,m2,T2⟩:=HP.out 2 N2 rfl
 obtain ⟨z3,m3,T3⟩:=HP.out 3 N3 rfl
 rw [Nat.add_zero] at m0
 replace T0:=lH T0
 replace T1:=lH T1
 replace T2:=lH T2
 replace T3:=lH T3
 obtain ⟨b0,o0,d0,f0,-,-,l0,g0⟩:=T0.out.form (List.getElem?_eq_some_iff.1 hy0).1
 obtain ⟨k0,-,-,-,g4,-⟩:=g0 0 y0 hy0
 have F0:=lH (fst_tree T0.out hy0)
 have F1:=lH (fst_tree T1.out hy1)
 have F2:=lH (fst_tree T2.out hy2)
 have F3:=lH (fst_tree T3.out hy3)
 obtain ⟨p0,hp0⟩:∃ n,n = N0.length:=⟨_,rfl⟩
 have x0:(0:Int) < (p0:Int):=by have:=(List.getElem?_eq_some_iff.1 hy0).1; omega
 have x00:0 < p0:=by omega
 rw [<- hp0] at f0
 subst f0
 obtain ⟨A1,d1,e1,-,-⟩:=T1.out.slice
 obtain ⟨p1,hp1⟩:∃ n,n = N1.length:=⟨_,rfl⟩
 rw [<- hp1] at e1
 subst e1
 have HP1:=lH hp1
 obtain ⟨A3,d3,e3,-,-⟩:=T3.out.slice
 obtain ⟨p3,hp3⟩:∃ n,n = N3.length:=⟨_,rfl⟩
 rw [<- hp3] at e3
 subst e3
 have HP3:=lH hp3
 have HPF:=lH (show PF w b0 o0 y0.d bp (op + 3) (.slice A3 p3 d3) from ⟨l0,by rw [Nat.zero_mul] at g4; exact g4,lp,m3⟩)
 clear HP g0 g4 l0 lp hp0 hp1 hp3
 go_enter Try.func17,Try.ntmps17
 go_wp2_with fail
 go_quiet (fail)
 have HB:Hid (Since w (w.drewN nq)):=lH (Att.belowN w nq)
 go_wp2_with fail
 refine RegW.start (fun W' => Hid (Since w W') /\ W'.cell? ⟨b0,o0 + 3,none⟩ = some (.string y0.d) /\ W'.cell? ⟨bp,op + 3,none⟩ = some (.slice A3 p3 d3)) 57 (by kernel_rfl) ⟨lH (HB.out.step (drew_since2 _)),HPF.out.at_ (HB.out.step (drew_since2 _))⟩ (fun hHeld => ?_)
 replace HB:=lH (HB.out.step (drew_since2 _))
 clear m0 m1 m2
 refine RegW.take (i:=0) (v:=?_) rfl (by kernel_rfl) (by kernel_rfl) (by kernel_rfl) (by kernel_rfl) (fun _ _ _ h => h) (Or.inl ⟨by kernel_rfl, ?_⟩) (by assumption) ?_
 rotate_left
 · intro w hSw
   go_split_ands
   go_simp
   try with_reducible rfl
 try simp only [Act.put,List.setIfInBounds_toArray]
 refine RegW.only (i:=1) rfl (by kernel_rfl) (fun K hK => ?_)
 go_simp
 refine hK.out _ _ ⟨lH (HB.out.alloc (.cells #[.int .i64 2] 3)),HPF.out.at_ (HB.out.alloc _)⟩ (fun hHeld => ?_)
 replace HB:=lH (HB.out.alloc (.cells #[.int .i64 2] 3))
 clear hK K
 try simp only [Act.put]
 try simp only [List.setIfInBounds_toArray]
 try simp only [List.set_cons_succ]
 try simp only [List.set_cons_zero]
 refine RegW.only (i:=2) rfl (by kernel_rfl) (fun K hK => ?_)
 go_simp
 go_at_call 16
 refine (is_rd _ _ 0 [2] (by decide) _ Q1.out _ _ _ (F0.out.since HB.out) (tags_lit _ 2)).mono ?_
 rintro _ w3 ⟨rfl,h3⟩
 replace HB:=lH (HB.out.step h3)
 clear h3
 refine hK.out _ _ ⟨HB,HPF.out.at_ HB.out⟩ (fun hHeld => ?_)
 clear hK K
 try simp only [Act.put]
 try simp only [List.setIfInBounds_toArray]
 try simp only [List.set_cons_succ]
 try simp only [List.set_cons_zero]
 refine RegW.take (i:=3) (v:=?_) rfl (by kernel_rfl) (by kernel_rfl) (by kernel_rfl) (by kernel_rfl) (fun _ _ _ h => h) (Or.inl ⟨by kernel_rfl, ?_⟩) (by assumption) ?_
 rotate_left
 · intro w hSw
   go_split_ands
   go_simp
   try with_reducible rfl
 try simp only [Act.put,List.setIfInBounds_toArray]
 refine RegW.take (i:=4) (v:=?_) rfl (by kernel_rfl) (by kernel_rfl) (by kernel_rfl) (by kernel_rfl) (fun _ _ _ h => h) (Or.inl ⟨by kernel_rfl, ?_⟩) (by assumption) ?_
 rotate_left
 · intro w hSw
   go_split_ands
   go_simp
   try with_reducible rfl
 try simp only [Act.put]
 refine RegW.take (i:=5) (v:=?_) rfl (by kernel_rfl) (by kernel_rfl) (by kernel_rfl) (by kernel_rfl) (fun _ _ _ h => h) (Or.inl ⟨by kernel_rfl, ?_⟩) (by assumption) ?_
 rotate_left
 · intro w hSw
   go_split_ands
   go_simp
   try with_reducible rfl
 try simp only [Act.put]
 refine RegW.take (i:=6) (v:=?_) rfl (by kernel_rfl) (by kernel_rfl) (by kernel_rfl) (by kernel_rfl) (fun _ _ _ h => h) (Or.inl ⟨by kernel_rfl, ?_⟩) (by assumption) ?_
 rotate_left
 · intro w hSw
   go_split_ands
   go_simp
   try with_reducible rfl
 try simp only [Act.put]
 refine RegW.take (i:=7) (v:=?_) rfl (by kernel_rfl) (by kernel_rfl) (by kernel_rfl) (by kernel_rfl) (fun _ _ _ h => h) (Or.inl ⟨by kernel_rfl, ?_⟩) (by assumption) ?_
 rotate_left
 · intro w hSw
   go_split_ands
   go_simp
   try with_reducible rfl
 try simp only [Act.put]
 refine RegW.only (i:=8) rfl (by kernel_rfl) (fun K hK => ?_)
 go_simp
 go_at_call 13
 refine c3.calls0 ?_
 intro w4 h4
 replace HB:=lH (HB.out.step h4)
 clear h4
 refine hK.out _ _ ⟨HB,HPF.out.at_ HB.out⟩ (fun hHeld => ?_)
 clear hK K
 try simp only [Act.put]
 try simp only [List.setIfInBounds_toArray]
 try simp only [List.set_cons_succ]
 try simp only [List.set_cons_zero]
 refine RegW.take (i:=9) (v:=?_) rfl (by kernel_rfl) (by kernel_rfl) (by kernel_rfl) (by kernel_rfl) (fun _ _ _ h => h) (Or.inl ⟨by kernel_rfl, ?_⟩) (by assumption) ?_
 rotate_left
 · intro w hSw
   go_split_ands
   go_simp
   try with_reducible rfl
 try simp only [Act.put,List.setIfInBounds_toArray]
 refine RegW.take (i:=10) (v:=?_) rfl (by kernel_rfl) (by kernel_rfl) (by kernel_rfl) (by kernel_rfl) (fun _ _ _ h => h) (Or.inl ⟨by kernel_rfl, ?_⟩) (by assumption) ?_
 rotate_left
 · intro w hSw
   go_split_ands
   go_simp
   try with_reducible rfl
 try simp only [Act.put]
 refine RegW.take (i:=11) (v:=?_) rfl (by kernel_rfl) (by kernel_rfl) (by kernel_rfl) (by kernel_rfl) (fun _ _ _ h => h) (Or.inl ⟨by kernel_rfl, ?_⟩) (by assumption) ?_
 rotate_left
 · intro w hSw
   go_split_ands
   go_simp
   try with_reducible rfl
 try simp only [Act.put]
 refine RegW.take (i:=12) (v:=?_) rfl (by kernel_rfl) (by kernel_rfl) (by kernel_rfl) (by kernel_rfl) (fun _ _ _ h => h) (Or.inl ⟨by kernel_rfl, ?_⟩) (by assumption) ?_
 rotate_left
 · intro w hSw
   go_split_ands
   go_simp
   try with_reducible rfl
 try simp only [Act.put]
 refine RegW.only (i:=13) rfl (by kernel_rfl) (fun K hK => ?_)
 go_simp
 refine hK.out _ _ ⟨lH (HB.out.alloc (.cells #[.int .i64 16] 3)),HPF.out.at_ (HB.out.alloc _)⟩ (fun hHeld => ?_)
 replace HB:=lH (HB.out.alloc (.cells #[.int .i64 16] 3))
 clear hK K
 try simp only [Act.put]
 try simp only [List.setIfInBounds_toArray]
 try simp only [List.set_cons_succ]
 try simp only [List.set_cons_zero]
 refine RegW.only (i:=14) rfl (by kernel_rfl) (fun K hK => ?_)
 go_simp
 go_at_call 16
 refine (is_rd _ _ 0 [16] (by decide) _ Q2.out _ _ _ (F1.out.since HB.out) (tags_lit _ 16)).mono ?_
 rintro _ w5 ⟨rfl,h5⟩
 replace HB:=lH (HB.out.step h5)
 clear h5
 refine hK.out _ _ ⟨HB,HPF.out.at_ HB.out⟩ (fun hHeld => ?_)
 clear hK K
 try simp only [Act.put]
 try simp only [List.setIfInBounds_toArray]
 try simp only [List.set_cons_succ]
 try simp only [List.set_cons_zero]
 refine RegW.take (i:=15) (v:=?_) rfl (by kernel_rfl) (by kernel_rfl) (by kernel_rfl) (by kernel_rfl) (fun _ _ _ h => h) (Or.inl ⟨by kernel_rfl, ?_⟩) (by assumption) ?_
 rotate_left
 · intro w hSw
   go_split_ands
   go_simp
   try with_reducible rfl
 try simp only [Act.put,List.setIfInBounds_toArray]
 refine RegW.take (i:=16) (v:=?_) rfl (by kernel_rfl) (by kernel_rfl) (by kernel_rfl) (by kernel_rfl) (fun _ _ _ h => h) (Or.inl ⟨by kernel_rfl, ?_⟩) (by assumption) ?_
 rotate_left
 · intro w hSw
   go_split_ands
   go_simp
   try with_reducible rfl
 try simp only [Act.put]
 refine RegW.take (i:=17) (v:=undef) rfl (by kernel_rfl) (by kernel_rfl) (by kernel_rfl) (by kernel_rfl) (fun _ _ _ h => h) (Or.inr ⟨by kernel_rfl,rfl⟩) (by assumption) ?_
 try simp only [Act.put]
 refine RegW.take (i:=18) (v:=undef) rfl (by kernel_rfl) (by kernel_rfl) (by kernel_rfl) (by kernel_rfl) (fun _ _ _ h => h) (Or.inr ⟨by kernel_rfl,rfl⟩) (by assumption) ?_
 try simp only [Act.put]
 refine RegW.take (i:=19) (v:=undef) rfl (by kernel_rfl) (by kernel_rfl) (by kernel_rfl) (by kernel_rfl) (fun _ _ _ h => h) (Or.inr ⟨by kernel_rfl,rfl⟩) (by assumption) ?_
 try simp only [Act.put]
 refine RegW.take (i:=20) (v:=?_) rfl (by kernel_rfl) (by kernel_rfl) (by kernel_rfl) (by kernel_rfl) (fun _ _ _ h => h) (Or.inl ⟨by kernel_rfl, ?_⟩) (by assumption) ?_
 rotate_left
 · intro w hSw
   go_split_ands
   go_simp
   try with_reducible rfl
 try simp only [Act.put]
 refine RegW.take (i:=21) (v:=?_) rfl (by kernel_rfl) (by kernel_rfl) (by kernel_rfl) (by kernel_rfl) (fun _ _ _ h => h) (Or.inl ⟨by kernel_rfl, ?_⟩) (by assumption) ?_
 rotate_left
 · intro w hSw
   go_split_ands
   go_simp
   try with_reducible rfl
 try simp only [Act.put]
 refine RegW.take (i:=22) (v:=undef) rfl (by kernel_rfl) (by kernel_rfl) (by kernel_rfl) (by kernel_rfl) (fun _ _ _ h => h) (Or.inr ⟨by kernel_rfl,rfl⟩) (by assumption) ?_
 try simp only [Act.put]
 refine RegW.take (i:=23) (v:=undef) rfl (by kernel_rfl) (by kernel_rfl) (by kernel_rfl) (by kernel_rfl) (fun _ _ _ h => h) (Or.inr ⟨by kernel_rfl,rfl⟩) (by assumption) ?_
 try simp only [Act.put]
 refine RegW.take (i:=24) (v:=undef) rfl (by kernel_rfl) (by kernel_rfl) (by kernel_rfl) (by kernel_rfl) (fun _ _ _ h => h) (Or.inr ⟨by kernel_rfl,rfl⟩) (by assumption) ?_
 try simp only [Act.put]
 refine RegW.take (i:=25) (v:=undef) rfl (by kernel_rfl) (by kernel_rfl) (by kernel_rfl) (by kernel_rfl) (fun _ _ _ h => h) (Or.inr ⟨by kernel_rfl,rfl⟩) (by assumption) ?_
 try simp only [Act.put]
 refine RegW.take (i:=26) (v:=?_) rfl (by kernel_rfl) (by kernel_rfl) (by kernel_rfl) (by kernel_rfl) (fun _ _ _ h => h) (Or.inl ⟨by kernel_rfl, ?_⟩) (by assumption) ?_
 rotate_left
 · intro w hSw
   go_split_ands
   go_simp
   try with_reducible rfl
 try simp only [Act.put]
 refine RegW.take (i:=27) (v:=?_) rfl (by kernel_rfl) (by kernel_rfl) (by kernel_rfl) (by kernel_rfl) (fun _ _ _ h => h) (Or.inl ⟨by kernel_rfl, ?_⟩) (by assumption) ?_
 rotate_left
 · intro w hSw
   go_split_ands
   go_simp
   try with_reducible rfl
 try simp only [Act.put]
 refine RegW.take (i:=28) (v:=undef) rfl (by kernel_rfl) (by kernel_rfl) (by kernel_rfl) (by kernel_rfl) (fun _ _ _ h => h) (Or.inr ⟨by kernel_rfl,rfl⟩) (by assumption) ?_
 try simp only [Act.put]
 refine RegW.take (i:=29) (v:=undef) rfl (by kernel_rfl) (by kernel_rfl) (by kernel_rfl) (by kernel_rfl) (fun _ _ _ h => h) (Or.inr ⟨by kernel_rfl,rfl⟩) (by assumption) ?_
 try simp only [Act.put]
 refine RegW.take (i:=30) (v:=undef) rfl (by kernel_rfl) (by kernel_rfl) (by kernel_rfl) (by kernel_rfl) (fun _ _ _ h => h) (Or.inr ⟨by kernel_rfl,rfl⟩) (by assumption) ?_
 try simp only [Act.put]
 refine RegW.take (i:=31) (v:=undef) rfl (by kernel_rfl) (by kernel_rfl) (by kernel_rfl) (by kernel_rfl) (fun _ _ _ h => h) (Or.inr ⟨by kernel_rfl,rfl⟩) (by assumption) ?_
 try simp only [Act.put]
 refine RegW.take (i:=32) (v:=?_) rfl (by kernel_rfl) (by kernel_rfl) (by kernel_rfl) (by kernel_rfl) (fun _ _ _ h => h) (Or.inl ⟨by kernel_rfl, ?_⟩) (by assumption) ?_
 rotate_left
 · intro w hSw
   go_split_ands
   go_simp
   try with_reducible rfl
 try simp only [Act.put]
 refine RegW.take (i:=33) (v:=?_) rfl (by kernel_rfl) (by kernel_rfl) (by kernel_rfl) (by kernel_rfl) (fun _ _ _ h => h) (Or.inl ⟨by kernel_rfl, ?_⟩) (by assumption) ?_
 rotate_left
 · intro w hSw
   go_split_ands
   go_simp
   try with_reducible rfl
 try simp only [Act.put]
 refine RegW.take (i:=34) (v:=undef) rfl (by kernel_rfl) (by kernel_rfl) (by kernel_rfl) (by kernel_rfl) (fun _ _ _ h => h) (Or.inr ⟨by kernel_rfl,rfl⟩) (by assumption) ?_
 try simp only [Act.put]
 refine RegW.take (i:=35) (v:=undef) rfl (by kernel_rfl) (by kernel_rfl) (by kernel_rfl) (by kernel_rfl) (fun _ _ _ h => h) (Or.inr ⟨by kernel_rfl,rfl⟩) (by assumption) ?_
 try simp only [Act.put]
 refine RegW.take (i:=36) (v:=undef) rfl (by kernel_rfl) (by kernel_rfl) (by kernel_rfl) (by kernel_rfl) (fun _ _ _ h => h) (Or.inr ⟨by kernel_rfl,rfl⟩) (by assumption) ?_
 try simp only [Act.put]
 refine RegW.take (i:=37) (v:=?_) rfl (by kernel_rfl) (by kernel_rfl) (by kernel_rfl) (by kernel_rfl) (fun _ _ _ h => h) (Or.inl ⟨by kernel_rfl, ?_⟩) (by assumption) ?_
 rotate_left
 · intro w hSw
   go_split_ands
   go_simp
   try with_reducible rfl
 try simp only [Act.put]
 refine RegW.take (i:=38) (v:=?_) rfl (by kernel_rfl) (by kernel_rfl) (by kernel_rfl) (by kernel_rfl) (fun _ _ _ h => h) (Or.inl ⟨by kernel_rfl, ?_⟩) (by assumption) ?_
 rotate_left
 · intro w hSw
   go_split_ands
   go_simp
   try with_reducible rfl
 try simp only [Act.put]
 refine RegW.take (i:=39) (v:=undef) rfl (by kernel_rfl) (by kernel_rfl) (by kernel_rfl) (by kernel_rfl) (fun _ _ _ h => h) (Or.inr ⟨by kernel_rfl,rfl⟩) (by assumption) ?_
 try simp only [Act.put]
 refine RegW.take (i:=40) (v:=undef) rfl (by kernel_rfl) (by kernel_rfl) (by kernel_rfl) (by kernel_rfl) (fun _ _ _ h => h) (Or.inr ⟨by kernel_rfl,rfl⟩) (by assumption) ?_
 try simp only [Act.put]
 refine RegW.take (i:=41) (v:=undef) rfl (by kernel_rfl) (by kernel_rfl) (by kernel_rfl) (by kernel_rfl) (fun _ _ _ h => h) (Or.inr ⟨by kernel_rfl,rfl⟩) (by assumption) ?_
 try simp only [Act.put]
 refine RegW.take (i:=42) (v:=undef) rfl (by kernel_rfl) (by kernel_rfl) (by kernel_rfl) (by kernel_rfl) (fun _ _ _ h => h) (Or.inr ⟨by kernel_rfl,rfl⟩) (by assumption) ?_
 try simp only [Act.put]
 refine RegW.take (i:=43) (v:=undef) rfl (by kernel_rfl) (by kernel_rfl) (by kernel_rfl) (by kernel_rfl) (fun _ _ _ h => h) (Or.inr ⟨by kernel_rfl,rfl⟩) (by assumption) ?_
 try simp only [Act.put]
 refine RegW.take (i:=44) (v:=undef) rfl (by kernel_rfl) (by kernel_rfl) (by kernel_rfl) (by kernel_rfl) (fun _ _ _ h => h) (Or.inr ⟨by kernel_rfl,rfl⟩) (by assumption) ?_
 try simp only [Act.put]
 refine RegW.take (i:=45) (v:=undef) rfl (by kernel_rfl) (by kernel_rfl) (by kernel_rfl) (by kernel_rfl) (fun _ _ _ h => h) (Or.inr ⟨by kernel_rfl,rfl⟩) (by assumption) ?_
 try simp only [Act.put]
 refine RegW.take (i:=46) (v:=undef) rfl (by kernel_rfl) (by kernel_rfl) (by kernel_rfl) (by kernel_rfl) (fun _ _ _ h => h) (Or.inr ⟨by kernel_rfl,rfl⟩) (by assumption) ?_
 try simp only [Act.put]
 refine RegW.take (i:=47) (v:=undef) rfl (by kernel_rfl) (by kernel_rfl) (by kernel_rfl) (by kernel_rfl) (fun _ _ _ h => h) (Or.inr ⟨by kernel_rfl,rfl⟩) (by assumption) ?_
 try simp only [Act.put]
 refine RegW.take (i:=48) (v:=undef) rfl (by kernel_rfl) (by kernel_rfl) (by kernel_rfl) (by kernel_rfl) (fun _ _ _ h => h) (Or.inr ⟨by kernel_rfl,rfl⟩) (by assumption) ?_
 try simp only [Act.put]
 refine RegW.take (i:=49) (v:=undef) rfl (by kernel_rfl) (by kernel_rfl) (by kernel_rfl) (by kernel_rfl) (fun _ _ _ h => h) (Or.inr ⟨by kernel_rfl,rfl⟩) (by assumption) ?_
 try simp only [Act.put]
 refine RegW.take (i:=50) (v:=undef) rfl (by kernel_rfl) (by kernel_rfl) (by kernel_rfl) (by kernel_rfl) (fun _ _ _ h => h) (Or.inr ⟨by kernel_rfl,rfl⟩) (by assumption) ?_
 try simp only [Act.put]
 refine RegW.take (i:=51) (v:=undef) rfl (by kernel_rfl) (by kernel_rfl) (by kernel_rfl) (by kernel_rfl) (fun _ _ _ h => h) (Or.inr ⟨by kernel_rfl,rfl⟩) (by assumption) ?_
 try simp only [Act.put]
 refine RegW.take (i:=52) (v:=undef) rfl (by kernel_rfl) (by kernel_rfl) (by kernel_rfl) (by kernel_rfl) (fun _ _ _ h => h) (Or.inr ⟨by kernel_rfl,rfl⟩) (by assumption) ?_
 try simp only [Act.put]
 refine RegW.take (i:=53) (v:=undef) rfl (by kernel_rfl) (by kernel_rfl) (by kernel_rfl) (by kernel_rfl) (fun _ _ _ h => h) (Or.inr ⟨by kernel_rfl,rfl⟩) (by assumption) ?_
 try simp only [Act.put]
 refine RegW.take (i:=54) (v:=undef) rfl (by kernel_rfl) (by kernel_rfl) (by kernel_rfl) (by kernel_rfl) (fun _ _ _ h => h) (Or.inr ⟨by kernel_rfl,rfl⟩) (by assumption) ?_
 try simp only [Act.put]
 refine RegW.take (i:=55) (v:=undef) rfl (by kernel_rfl) (by kernel_rfl) (by kernel_rfl) (by kernel_rfl) (fun _ _ _ h => h) (Or.inr ⟨by kernel_rfl,rfl⟩) (by assumption) ?_
 try simp only [Act.put]
 refine RegW.take (i:=56) (v:=?_) rfl (by kernel_rfl) (by kernel_rfl) (by kernel_rfl) (by kernel_rfl) (fun _ _ _ h => h) (Or.inl ⟨by kernel_rfl, ?_⟩) (by assumption) ?_
 rotate_left
 · intro w hSw
   go_split_ands
   go_simp
   try with_reducible rfl
 try simp only [Act.put]
 refine RegW.last rfl (by kernel_rfl) (by kernel_rfl) ?_
 clear hHeld
 go_wp2_with fail
 go_ret
 exact ⟨rfl,HB.out⟩
set_option maxHeartbeats 16000000 in
theorem proper4_4 (N0 N1 N2 N3:List Nd) (y0 y1 y2 y3:Nd) (hy0:N0[0]? = some y0) (hy1:N1[0]? = some y1) (hy2:N2[0]? = some y2) (hy3:N3[0]? = some y3) (c3:Mak 13 #[.int .i64 0] (.string ⟨#[0]⟩)) (q1:true = tagsB y0.c y0.t 0 [2]) (t1:(y0.d.toList == [0]) = true) (q2:true = tagsB y1.c y1.t 0 [16]) (h5:N1.length ≠ 3):RdQ 17 [N0,N1,N2,N3] false:=by
 have Q1:=lH q1
 have Q2:=lH q2
 have H5:=lH h5
 clear q1 q2 h5
 intro w P hP
 obtain ⟨bp,op,cp,e1,lp,hp⟩:=hP.form (by show 0 < 4; omega)
 replace e1:P = .slice (some ⟨bp,op,none⟩) 4 cp:=e1
 subst e1
 have HP:=lH hp
 clear hP hp
 obtain ⟨z0,m0,T0⟩:=HP.out 0 N0 rfl
 obtain ⟨z1,m1,T1⟩:=HP.out 1 N1 rfl
 obtain ⟨z2,m2,T2⟩:=HP.out 2 N2 rfl
 obtain ⟨z3,m3,T3⟩:=HP.out 3 N3 rfl
 rw [Nat.add_zero] at m0
 replace T0:=lH T0
 replace T1:=lH T1
 replace T2:=lH T2
 replace T3:=lH T3
 obtain ⟨b0,o0,d0,f0,-,-,l0,g0⟩:=T0.out.form (List.getElem?_eq_some_iff.1 hy0).1
 obtain ⟨k0,-,-,-,g4,-⟩:=g0 0 y0 hy0
 have F0:=lH (fst_tree T0.out hy0)
 have F1:=lH (fst_tree T1.out hy1)
 have F2:=lH (fst_tree T2.out hy2)
 have F3:=lH (fst_tree T3.out hy3)
 obtain ⟨p0,hp0⟩:∃ n,n = N0.length:=⟨_,rfl⟩
 have x0:(0:Int) < (p0:Int):=by have:=(List.getElem?_eq_some_iff.1 hy0).1; omega
 have x00:0 < p0:=by omega
 rw [<- hp0] at f0
 subst f0
 obtain ⟨A1,d1,e1,-,-⟩:=T1.out.slice
 obtain ⟨p1,hp1⟩:∃ n,n = N1.length:=⟨_,rfl⟩
 rw [<- hp1] at e1
 subst e1
 have HP1:=lH hp1
 obtain ⟨A3,d3,e3,-,-⟩:=T3.out.slice
 obtain ⟨p3,hp3⟩:∃ n,n = N3.length:=⟨_,rfl⟩
 rw [<- hp3] at e3
 subst e3
 have HP3:=lH hp3
 have HPF:=lH (show PF w b0 o0 y0.d bp (op + 3) (.slice A3 p3 d3) from ⟨l0,by rw [Nat.zero_mul] at g4; exact g4,lp,m3⟩)
 clear HP g0 g4 l0 lp hp0 hp1 hp3
 have t2:((p1:Int) == 3) = false:=beq_eq_false_iff_ne.2 (by have h6:=HP1.out; have h7:=H5.out; omega)
 go_enter Try.func17,Try.ntmps17
 go_wp2_with fail
 go_quiet (fail)
 have HB:Hid (Since w (w.drewN nq)):=lH (Att.belowN w nq)
 go_wp2_with fail
 refine RegW.start (fun W' => Hid (Since w W') /\ W'.cell? ⟨b0,o0 + 3,none⟩ = some (.string y0.d) /\ W'.cell? ⟨bp,op + 3,none⟩ = some (.slice A3 p3 d3)) 57 (by kernel_rfl) ⟨lH (HB.out.step (drew_since2 _)),HPF.out.at_ (HB.out.step (drew_since2 _))⟩ (fun hHeld => ?_)
 replace HB:=lH (HB.out.step (drew_since2 _))
 clear m0 m1 m2
 refine RegW.take (i:=0) (v:=?_) rfl (by kernel_rfl) (by kernel_rfl) (by kernel_rfl) (by kernel_rfl) (fun _ _ _ h => h) (Or.inl ⟨by kernel_rfl, ?_⟩) (by assumption) ?_
 rotate_left
 · intro w hSw
   go_split_ands
   go_simp
   try with_reducible rfl
 try simp only [Act.put,List.setIfInBounds_toArray]
 refine RegW.only (i:=1) rfl (by kernel_rfl) (fun K hK => ?_)
 go_simp
 refine hK.out _ _ ⟨lH (HB.out.alloc (.cells #[.int .i64 2] 3)),HPF.out.at_ (HB.out.alloc _)⟩ (fun hHeld => ?_)
 replace HB:=lH (HB.out.alloc (.cells #[.int .i64 2] 3))
 clear hK K
 try simp only [Act.put]
 try simp only [List.setIfInBounds_toArray]
 try simp only [List.set_cons_succ]
 try simp only [List.set_cons_zero]
 refine RegW.only (i:=2) rfl (by kernel_rfl) (fun K hK => ?_)
 go_simp
 go_at_call 16
 refine (is_rd _ _ 0 [2] (by decide) _ Q1.out _ _ _ (F0.out.since HB.out) (tags_lit _ 2)).mono ?_
 rintro _ w3 ⟨rfl,h3⟩
 replace HB:=lH (HB.out.step h3)
 clear h3
 refine hK.out _ _ ⟨HB,HPF.out.at_ HB.out⟩ (fun hHeld => ?_)
 clear hK K
 try simp only [Act.put]
 try simp only [List.setIfInBounds_toArray]
 try simp only [List.set_cons_succ]
 try simp only [List.set_cons_zero]
 refine RegW.take (i:=3) (v:=?_) rfl (by kernel_rfl) (by kernel_rfl) (by kernel_rfl) (by kernel_rfl) (fun _ _ _ h => h) (Or.inl ⟨by kernel_rfl, ?_⟩) (by assumption) ?_
 rotate_left
 · intro w hSw
   go_split_ands
   go_simp
   try with_reducible rfl
 try simp only [Act.put,List.setIfInBounds_toArray]
 refine RegW.take (i:=4) (v:=?_) rfl (by kernel_rfl) (by kernel_rfl) (by kernel_rfl) (by kernel_rfl) (fun _ _ _ h => h) (Or.inl ⟨by kernel_rfl, ?_⟩) (by assumption) ?_
 rotate_left
 · intro w hSw
   go_split_ands
   go_simp
   try with_reducible rfl
 try simp only [Act.put]
 refine RegW.take (i:=5) (v:=?_) rfl (by kernel_rfl) (by kernel_rfl) (by kernel_rfl) (by kernel_rfl) (fun _ _ _ h => h) (Or.inl ⟨by kernel_rfl, ?_⟩) (by assumption) ?_
 rotate_left
 · intro w hSw
   go_split_ands
   go_simp
   try with_reducible rfl
 try simp only [Act.put]
 refine RegW.take (i:=6) (v:=?_) rfl (by kernel_rfl) (by kernel_rfl) (by kernel_rfl) (by kernel_rfl) (fun _ _ _ h => h) (Or.inl ⟨by kernel_rfl, ?_⟩) (by assumption) ?_
 rotate_left
 · intro w hSw
   go_split_ands
   go_simp
   try with_reducible rfl
 try simp only [Act.put]
 refine RegW.take (i:=7) (v:=?_) rfl (by kernel_rfl) (by kernel_rfl) (by kernel_rfl) (by kernel_rfl) (fun _ _ _ h => h) (Or.inl ⟨by kernel_rfl, ?_⟩) (by assumption) ?_
 rotate_left
 · intro w hSw
   go_split_ands
   go_simp
   try with_reducible rfl
 try simp only [Act.put]
 refine RegW.only (i:=8) rfl (by kernel_rfl) (fun K hK => ?_)
 go_simp
 go_at_call 13
 refine c3.calls0 ?_
 intro w4 h4
 replace HB:=lH (HB.out.step h4)
 clear h4
 refine hK.out _ _ ⟨HB,HPF.out.at_ HB.out⟩ (fun hHeld => ?_)
 clear hK K
 try simp only [Act.put]
 try simp only [List.setIfInBounds_toArray]
 try simp only [List.set_cons_succ]
 try simp only [List.set_cons_zero]
 refine RegW.take (i:=9) (v:=?_) rfl (by kernel_rfl) (by kernel_rfl) (by kernel_rfl) (by kernel_rfl) (fun _ _ _ h => h) (Or.inl ⟨by kernel_rfl, ?_⟩) (by assumption) ?_
 rotate_left
 · intro w hSw
   go_split_ands
   go_simp
   try with_reducible rfl
 try simp only [Act.put,List.setIfInBounds_toArray]
 refine RegW.take (i:=10) (v:=?_) rfl (by kernel_rfl) (by kernel_rfl) (by kernel_rfl) (by kernel_rfl) (fun _ _ _ h => h) (Or.inl ⟨by kernel_rfl, ?_⟩) (by assumption) ?_
 rotate_left
 · intro w hSw
   go_split_ands
   go_simp
   try with_reducible rfl
 try simp only [Act.put]
 refine RegW.take (i:=11) (v:=?_) rfl (by kernel_rfl) (by kernel_rfl) (by kernel_rfl) (by kernel_rfl) (fun _ _ _ h => h) (Or.inl ⟨by kernel_rfl, ?_⟩) (by assumption) ?_
 rotate_left
 · intro w hSw
   go_split_ands
   go_simp
   try with_reducible rfl
 try simp only [Act.put]
 refine RegW.take (i:=12) (v:=?_) rfl (by kernel_rfl) (by kernel_rfl) (by kernel_rfl) (by kernel_rfl) (fun _ _ _ h => h) (Or.inl ⟨by kernel_rfl, ?_⟩) (by assumption) ?_
 rotate_left
 · intro w hSw
   go_split_ands
   go_simp
   try with_reducible rfl
 try simp only [Act.put]
 refine RegW.only (i:=13) rfl (by kernel_rfl) (fun K hK => ?_)
 go_simp
 refine hK.out _ _ ⟨lH (HB.out.alloc (.cells #[.int .i64 16] 3)),HPF.out.at_ (HB.out.alloc _)⟩ (fun hHeld => ?_)
 replace HB:=lH (HB.out.alloc (.cells #[.int .i64 16] 3))
 clear hK K
 try simp only [Act.put]
 try simp only [List.setIfInBounds_toArray]
 try simp only [List.set_cons_succ]
 try simp only [List.set_cons_zero]
 refine RegW.only (i:=14) rfl (by kernel_rfl) (fun K hK => ?_)
 go_simp
 go_at_call 16
 refine (is_rd _ _ 0 [16] (by decide) _ Q2.out _ _ _ (F1.out.since HB.out) (tags_lit _ 16)).mono ?_
 rintro _ w5 ⟨rfl,h5⟩
 replace HB:=lH (HB.out.step h5)
 clear h5
 refine hK.out _ _ ⟨HB,HPF.out.at_ HB.out⟩ (fun hHeld => ?_)
 clear hK K
 try simp only [Act.put]
 try simp only [List.setIfInBounds_toArray]
 try simp only [List.set_cons_succ]
 try simp only [List.set_cons_zero]
 refine RegW.take (i:=15) (v:=?_) rfl (by kernel_rfl) (by kernel_rfl) (by kernel_rfl) (by kernel_rfl) (fun _ _ _ h => h) (Or.inl ⟨by kernel_rfl, ?_⟩) (by assumption) ?_
 rotate_left
 · intro w hSw
   go_split_ands
   go_simp
   try with_reducible rfl
 try simp only [Act.put]
 try simp only [List.setIfInBounds_toArray]
 try simp only [List.set_cons_succ]
 try simp only [List.set_cons_zero]
 refine RegW.take (i:=16) (v:=?_) rfl (by kernel_rfl) (by kernel_rfl) (by kernel_rfl) (by kernel_rfl) (fun _ _ _ h => h) (Or.inl ⟨by kernel_rfl, ?_⟩) (by assumption) ?_
 rotate_left
 · intro w hSw
   go_split_ands
   go_simp
   try with_reducible rfl
 try simp only [Act.put]
 try simp only [List.setIfInBounds_toArray]
 try simp only [List.set_cons_succ]
 try simp only [List.set_cons_zero]
 refine RegW.take (i:=17) (v:=?_) rfl (by kernel_rfl) (by kernel_rfl) (by kernel_rfl) (by kernel_rfl) (fun _ _ _ h => h) (Or.inl ⟨by kernel_rfl, ?_⟩) (by assumption) ?_
 rotate_left
 · intro w hSw
   go_split_ands
   go_simp
   try with_reducible rfl
 try simp only [Act.put]
 try simp only [List.setIfInBounds_toArray]
 try simp only [List.set_cons_succ]
 try simp only [List.set_cons_zero]
 refine RegW.take (i:=18) (v:=?_) rfl (by kernel_rfl) (by kernel_rfl) (by kernel_rfl) (by kernel_rfl) (fun _ _ _ h => h) (Or.inl ⟨by kernel_rfl, ?_⟩) (by assumption) ?_
 rotate_left
 · intro w hSw
   go_split_ands
   go_simp
   try with_reducible rfl
 try simp only [Act.put]
 try simp only [List.setIfInBounds_toArray]
 try simp only [List.set_cons_succ]
 try simp only [List.set_cons_zero]
 refine RegW.take (i:=19) (v:=?_) rfl (by kernel_rfl) (by kernel_rfl) (by kernel_rfl) (by kernel_rfl) (fun _ _ _ h => h) (Or.inl ⟨by kernel_rfl, ?_⟩) (by assumption) ?_
 rotate_left
 · intro w hSw
   go_split_ands
   go_simp
   try with_reducible rfl
 try simp only [Act.put]
 try simp only [List.setIfInBounds_toArray]
 try simp only [List.set_cons_succ]
 try simp only [List.set_cons_zero]
 refine RegW.take (i:=20) (v:=?_) rfl (by kernel_rfl) (by kernel_rfl) (by kernel_rfl) (by kernel_rfl) (fun _ _ _ h => h) (Or.inl ⟨by kernel_rfl, ?_⟩) (by assumption) ?_
 rotate_left
 · intro w hSw
   go_split_ands
   go_simp
   try with_reducible rfl
 try simp only [Act.put]
 try simp only [List.setIfInBounds_toArray]
 try simp only [List.set_cons_succ]
 try simp only [List.set_cons_zero]
 refine RegW.take (i:=21) (v:=?_) rfl (by kernel_rfl) (by kernel_rfl) (by kernel_rfl) (by kernel_rfl) (fun _ _ _ h => h) (Or.inl ⟨by kernel_rfl, ?_⟩) (by assumption) ?_
 rotate_left
 · intro w hSw
   go_split_ands
   go_simp
   try with_reducible rfl
 try simp only [Act.put]
 try simp only [List.setIfInBounds_toArray]
 try simp only [List.set_cons_succ]
 try simp only [List.set_cons_zero]
 refine RegW.take (i:=22) (v:=undef) rfl (by kernel_rfl) (by kernel_rfl) (by kernel_rfl) (by kernel_rfl) (fun _ _ _ h => h) (Or.inr ⟨by kernel_rfl,rfl⟩) (by assumption) ?_
 try simp only [Act.put]
 try simp only [List.setIfInBounds_toArray]
 try simp only [List.set_cons_succ]
 try simp only [List.set_cons_zero]
 refine RegW.take (i:=23) (v:=undef) rfl (by kernel_rfl) (by kernel_rfl) (by kernel_rfl) (by kernel_rfl) (fun _ _ _ h => h) (Or.inr ⟨by kernel_rfl,rfl⟩) (by assumption) ?_
 try simp only [Act.put]
 try simp only [List.setIfInBounds_toArray]
 try simp only [List.set_cons_succ]
 try simp only [List.set_cons_zero]
 refine RegW.take (i:=24) (v:=undef) rfl (by kernel_rfl) (by kernel_rfl) (by kernel_rfl) (by kernel_rfl) (fun _ _ _ h => h) (Or.inr ⟨by kernel_rfl,rfl⟩) (by assumption) ?_
 try simp only [Act.put]
 try simp only [List.setIfInBounds_toArray]
 try simp only [List.set_cons_succ]
 try simp only [List.set_cons_zero]
 refine RegW.take (i:=25) (v:=undef) rfl (by kernel_rfl) (by kernel_rfl) (by kernel_rfl) (by kernel_rfl) (fun _ _ _ h => h) (Or.inr ⟨by kernel_rfl,rfl⟩) (by assumption) ?_
 try simp only [Act.put]
 try simp only [List.setIfInBounds_toArray]
 try simp only [List.set_cons_succ]
 try simp only [List.set_cons_zero]
 refine RegW.take (i:=26) (v:=?_) rfl (by kernel_rfl) (by kernel_rfl) (by kernel_rfl) (by kernel_rfl) (fun _ _ _ h => h) (Or.inl ⟨by kernel_rfl, ?_⟩) (by assumption) ?_
 rotate_left
 · intro w hSw
   go_split_ands
   go_simp
   try with_reducible rfl
 try simp only [Act.put]
 try simp only [List.setIfInBounds_toArray]
 try simp only [List.set_cons_succ]
 try simp only [List.set_cons_zero]
 refine RegW.take (i:=27) (v:=?_) rfl (by kernel_rfl) (by kernel_rfl) (by kernel_rfl) (by kernel_rfl) (fun _ _ _ h => h) (Or.inl ⟨by kernel_rfl, ?_⟩) (by assumption) ?_
 rotate_left
 · intro w hSw
   go_split_ands
   go_simp
   try with_reducible rfl
 try simp only [Act.put]
 try simp only [List.setIfInBounds_toArray]
 try simp only [List.set_cons_succ]
 try simp only [List.set_cons_zero]
 refine RegW.take (i:=28) (v:=undef) rfl (by kernel_rfl) (by kernel_rfl) (by kernel_rfl) (by kernel_rfl) (fun _ _ _ h => h) (Or.inr ⟨by kernel_rfl,rfl⟩) (by assumption) ?_
 try simp only [Act.put]
 try simp only [List.setIfInBounds_toArray]
 try simp only [List.set_cons_succ]
 try simp only [List.set_cons_zero]
 refine RegW.take (i:=29) (v:=undef) rfl (by kernel_rfl) (by kernel_rfl) (by kernel_rfl) (by kernel_rfl) (fun _ _ _ h => h) (Or.inr ⟨by kernel_rfl,rfl⟩) (by assumption) ?_
 try simp only [Act.put]
 try simp only [List.setIfInBounds_toArray]
 try simp only [List.set_cons_succ]
 try simp only [List.set_cons_zero]
 refine RegW.take (i:=30) (v:=undef) rfl (by kernel_rfl) (by kernel_rfl) (by kernel_rfl) (by kernel_rfl) (fun _ _ _ h => h) (Or.inr ⟨by kernel_rfl,rfl⟩) (by assumption) ?_
 try simp only [Act.put]
 try simp only [List.setIfInBounds_toArray]
 try simp only [List.set_cons_succ]
 try simp only [List.set_cons_zero]
 refine RegW.take (i:=31) (v:=undef) rfl (by kernel_rfl) (by kernel_rfl) (by kernel_rfl) (by kernel_rfl) (fun _ _ _ h => h) (Or.inr ⟨by kernel_rfl,rfl⟩) (by assumption) ?_
 try simp only [Act.put]
 try simp only [List.setIfInBounds_toArray]
 try simp only [List.set_cons_succ]
 try simp only [List.set_cons_zero]
 refine RegW.take (i:=32) (v:=?_) rfl (by kernel_rfl) (by kernel_rfl) (by kernel_rfl) (by kernel_rfl) (fun _ _ _ h => h) (Or.inl ⟨by kernel_rfl, ?_⟩) (by assumption) ?_
 rotate_left
 · intro w hSw
   go_split_ands
   go_simp
   try with_reducible rfl
 try simp only [Act.put]
 try simp only [List.setIfInBounds_toArray]
 try simp only [List.set_cons_succ]
 try simp only [List.set_cons_zero]
 refine RegW.take (i:=33) (v:=?_) rfl (by kernel_rfl) (by kernel_rfl) (by kernel_rfl) (by kernel_rfl) (fun _ _ _ h => h) (Or.inl ⟨by kernel_rfl, ?_⟩) (by assumption) ?_
 rotate_left
 · intro w hSw
   go_split_ands
   go_simp
   try with_reducible rfl
 try simp only [Act.put]
 try simp only [List.setIfInBounds_toArray]
 try simp only [List.set_cons_succ]
 try simp only [List.set_cons_zero]
 refine RegW.take (i:=34) (v:=undef) rfl (by kernel_rfl) (by kernel_rfl) (by kernel_rfl) (by kernel_rfl) (fun _ _ _ h => h) (Or.inr ⟨by kernel_rfl,rfl⟩) (by assumption) ?_
 try simp only [Act.put]
 try simp only [List.setIfInBounds_toArray]
 try simp only [List.set_cons_succ]
 try simp only [List.set_cons_zero]
 refine RegW.take (i:=35) (v:=undef) rfl (by kernel_rfl) (by kernel_rfl) (by kernel_rfl) (by kernel_rfl) (fun _ _ _ h => h) (Or.inr ⟨by kernel_rfl,rfl⟩) (by assumption) ?_
 try simp only [Act.put]
 try simp only [List.setIfInBounds_toArray]
 try simp only [List.set_cons_succ]
 try simp only [List.set_cons_zero]
 refine RegW.take (i:=36) (v:=undef) rfl (by kernel_rfl) (by kernel_rfl) (by kernel_rfl) (by kernel_rfl) (fun _ _ _ h => h) (Or.inr ⟨by kernel_rfl,rfl⟩) (by assumption) ?_
 try simp only [Act.put]
 try simp only [List.setIfInBounds_toArray]
 try simp only [List.set_cons_succ]
 try simp only [List.set_cons_zero]
 refine RegW.take (i:=37) (v:=?_) rfl (by kernel_rfl) (by kernel_rfl) (by kernel_rfl) (by kernel_rfl) (fun _ _ _ h => h) (Or.inl ⟨by kernel_rfl, ?_⟩) (by assumption) ?_
 rotate_left
 · intro w hSw
   go_split_ands
   go_simp
   try with_reducible rfl
 try simp only [Act.put]
 try simp only [List.setIfInBounds_toArray]
 try simp only [List.set_cons_succ]
 try simp only [List.set_cons_zero]
 refine RegW.take (i:=38) (v:=?_) rfl (by kernel_rfl) (by kernel_rfl) (by kernel_rfl) (by kernel_rfl) (fun _ _ _ h => h) (Or.inl ⟨by kernel_rfl, ?_⟩) (by assumption) ?_
 rotate_left
 · intro w hSw
   go_split_ands
   go_simp
   try with_reducible rfl
 try simp only [Act.put]
 try simp only [List.setIfInBounds_toArray]
 try simp only [List.set_cons_succ]
 try simp only [List.set_cons_zero]
 refine RegW.take (i:=39) (v:=undef) rfl (by kernel_rfl) (by kernel_rfl) (by kernel_rfl) (by kernel_rfl) (fun _ _ _ h => h) (Or.inr ⟨by kernel_rfl,rfl⟩) (by assumption) ?_
 try simp only [Act.put]
 try simp only [List.setIfInBounds_toArray]
 try simp only [List.set_cons_succ]
 try simp only [List.set_cons_zero]
 refine RegW.take (i:=40) (v:=undef) rfl (by kernel_rfl) (by kernel_rfl) (by kernel_rfl) (by kernel_rfl) (fun _ _ _ h => h) (Or.inr ⟨by kernel_rfl,rfl⟩) (by assumption) ?_
 try simp only [Act.put]
 try simp only [List.setIfInBounds_toArray]
 try simp only [List.set_cons_succ]
 try simp only [List.set_cons_zero]
 refine RegW.take (i:=41) (v:=undef) rfl (by kernel_rfl) (by kernel_rfl) (by kernel_rfl) (by kernel_rfl) (fun _ _ _ h => h) (Or.inr ⟨by kernel_rfl,rfl⟩) (by assumption) ?_
 try simp only [Act.put]
 try simp only [List.setIfInBounds_toArray]
 try simp only [List.set_cons_succ]
 try simp only [List.set_cons_zero]
 refine RegW.take (i:=42) (v:=undef) rfl (by kernel_rfl) (by kernel_rfl) (by kernel_rfl) (by kernel_rfl) (fun _ _ _ h => h) (Or.inr ⟨by kernel_rfl,rfl⟩) (by assumption) ?_
 try simp only [Act.put]
 try simp only [List.setIfInBounds_toArray]
 try simp only [List.set_cons_succ]
 try simp only [List.set_cons_zero]
 refine RegW.take (i:=43) (v:=undef) rfl (by kernel_rfl) (by kernel_rfl) (by kernel_rfl) (by kernel_rfl) (fun _ _ _ h => h) (Or.inr ⟨by kernel_rfl,rfl⟩) (by assumption) ?_
 try simp only [Act.put]
 try simp only [List.setIfInBounds_toArray]
 try simp only [List.set_cons_succ]
 try simp only [List.set_cons_zero]
 refine RegW.take (i:=44) (v:=undef) rfl (by kernel_rfl) (by kernel_rfl) (by kernel_rfl) (by kernel_rfl) (fun _ _ _ h => h) (Or.inr ⟨by kernel_rfl,rfl⟩) (by assumption) ?_
 try simp only [Act.put]
 try simp only [List.setIfInBounds_toArray]
 try simp only [List.set_cons_succ]
 try simp only [List.set_cons_zero]
 refine RegW.take (i:=45) (v:=undef) rfl (by kernel_rfl) (by kernel_rfl) (by kernel_rfl) (by kernel_rfl) (fun _ _ _ h => h) (Or.inr ⟨by kernel_rfl,rfl⟩) (by assumption) ?_
 try simp only [Act.put]
 try simp only [List.setIfInBounds_toArray]
 try simp only [List.set_cons_succ]
 try simp only [List.set_cons_zero]
 refine RegW.take (i:=46) (v:=undef) rfl (by kernel_rfl) (by kernel_rfl) (by kernel_rfl) (by kernel_rfl) (fun _ _ _ h => h) (Or.inr ⟨by kernel_rfl,rfl⟩) (by assumption) ?_
 try simp only [Act.put]
 try simp only [List.setIfInBounds_toArray]
 try simp only [List.set_cons_succ]
 try simp only [List.set_cons_zero]
 refine RegW.take (i:=47) (v:=undef) rfl (by kernel_rfl) (by kernel_rfl) (by kernel_rfl) (by kernel_rfl) (fun _ _ _ h => h) (Or.inr ⟨by kernel_rfl,rfl⟩) (by assumption) ?_
 try simp only [Act.put]
 try simp only [List.setIfInBounds_toArray]
 try simp only [List.set_cons_succ]
 try simp only [List.set_cons_zero]
 refine RegW.take (i:=48) (v:=undef) rfl (by kernel_rfl) (by kernel_rfl) (by kernel_rfl) (by kernel_rfl) (fun _ _ _ h => h) (Or.inr ⟨by kernel_rfl,rfl⟩) (by assumption) ?_
 try simp only [Act.put]
 try simp only [List.setIfInBounds_toArray]
 try simp only [List.set_cons_succ]
 try simp only [List.set_cons_zero]
 refine RegW.take (i:=49) (v:=undef) rfl (by kernel_rfl) (by kernel_rfl) (by kernel_rfl) (by kernel_rfl) (fun _ _ _ h => h) (Or.inr ⟨by kernel_rfl,rfl⟩) (by assumption) ?_
 try simp only [Act.put]
 try simp only [List.setIfInBounds_toArray]
 try simp only [List.set_cons_succ]
 try simp only [List.set_cons_zero]
 refine RegW.take (i:=50) (v:=undef) rfl (by kernel_rfl) (by kernel_rfl) (by kernel_rfl) (by kernel_rfl) (fun _ _ _ h => h) (Or.inr ⟨by kernel_rfl,rfl⟩) (by assumption) ?_
 try simp only [Act.put]
 try simp only [List.setIfInBounds_toArray]
 try simp only [List.set_cons_succ]
 try simp only [List.set_cons_zero]
 refine RegW.take (i:=51) (v:=undef) rfl (by kernel_rfl) (by kernel_rfl) (by kernel_rfl) (by kernel_rfl) (fun _ _ _ h => h) (Or.inr ⟨by kernel_rfl,rfl⟩) (by assumption) ?_
 try simp only [Act.put]
 try simp only [List.setIfInBounds_toArray]
 try simp only [List.set_cons_succ]
 try simp only [List.set_cons_zero]
 refine RegW.take (i:=52) (v:=undef) rfl (by kernel_rfl) (by kernel_rfl) (by kernel_rfl) (by kernel_rfl) (fun _ _ _ h => h) (Or.inr ⟨by kernel_rfl,rfl⟩) (by assumption) ?_
 try simp only [Act.put]
 try simp only [List.setIfInBounds_toArray]
 try simp only [List.set_cons_succ]
 try simp only [List.set_cons_zero]
 refine RegW.take (i:=53) (v:=undef) rfl (by kernel_rfl) (by kernel_rfl) (by kernel_rfl) (by kernel_rfl) (fun _ _ _ h => h) (Or.inr ⟨by kernel_rfl,rfl⟩) (by assumption) ?_
 try simp only [Act.put]
 try simp only [List.setIfInBounds_toArray]
 try simp only [List.set_cons_succ]
 try simp only [List.set_cons_zero]
 refine RegW.take (i:=54) (v:=undef) rfl (by kernel_rfl) (by kernel_rfl) (by kernel_rfl) (by kernel_rfl) (fun _ _ _ h => h) (Or.inr ⟨by kernel_rfl,rfl⟩) (by assumption) ?_
 try simp only [Act.put]
 try simp only [List.setIfInBounds_toArray]
 try simp only [List.set_cons_succ]
 try simp only [List.set_cons_zero]
 refine RegW.take (i:=55) (v:=undef) rfl (by kernel_rfl) (by kernel_rfl) (by kernel_rfl) (by kernel_rfl) (fun _ _ _ h => h) (Or.inr ⟨by kernel_rfl,rfl⟩) (by assumption) ?_
 try simp only [Act.put]
 try simp only [List.setIfInBounds_toArray]
 try simp only [List.set_cons_succ]
 try simp only [List.set_cons_zero]
 refine RegW.take (i:=56) (v:=?_) rfl (by kernel_rfl) (by kernel_rfl) (by kernel_rfl) (by kernel_rfl) (fun _ _ _ h => h) (Or.inl ⟨by kernel_rfl, ?_⟩) (by assumption) ?_
 rotate_left
 · intro w hSw
   go_split_ands
   go_simp
   try with_reducible rfl
 try simp only [Act.put]
 try simp only [List.setIfInBounds_toArray]
 try simp only [List.set_cons_succ]
 try simp only [List.set_cons_zero]
 refine RegW.last rfl (by kernel_rfl) (by kernel_rfl) ?_
 clear hHeld
 go_wp2_with fail
 go_ret
 exact ⟨rfl,HB.out⟩
end Pk
end Go.Proofs.Ytpanhhjkecebkaa
