import Derived.Test.YtpanhhjkecebkaaGreatDoorSt39
import Derived.Test.YtpanhhjkecebkaaGreatDoorSt10
set_option maxRecDepth 100000
namespace Go.Proofs.YtpanhhjkecebkaaGreatDoor
open Go.RowKit
namespace Sec
open Tlv Tree Strs
theorem tail_slice {w:World} {b o n c:Nat} {N:List Nd} (h:TreeS w (.slice (some ⟨b,o,none⟩) n c) N) (hn:n = N.length) (h1:1 < n) :
   ∃ A',TreeS w (.slice A' (n - 1) (c - 1)) (N.drop 1) /\ ∀ W,(Instr.slice 33 (.slice (some ⟨b,o,none⟩) n c) (some (.int .i64 1)) none none).run Tryz.prog W = .ok (.slice A' (n - 1) (c - 1)) W:=by
 subst hn
 have hc:=h.slice
 obtain ⟨A,c2,hv,hc1,-⟩:=hc
 obtain ⟨-,-,rfl⟩:=Value.slice.inj hv
 obtain ⟨A',g1,g2⟩:=sub_slice h 1 N.length h1 (Nat.le_refl _)
 rw [List.take_length] at g1
 refine ⟨A',g1,fun W => ?_⟩
 have ht':Tryz.prog.underlying 33 = some (.slice (Tryz.prog.elem 33)):=by simp [Program.elem,Tryz.underlying33]
 have h9:=g2 W
 rw [run_slice_lh W _ _ _ _ ht' .i64 .i64 _ _ (by omega) (by omega) (by omega)] at h9
 rw [run_slice_l W _ _ _ _ ht' .i64 _ (by omega) (by omega)]
 rw [<- h9]
 rfl
structure PF (wr:World) (b0 o0:Nat) (d:ByteArray):Prop where
 lt:b0 < wr.heap.size
 cell:wr.cell? ⟨b0,o0 + 3,none⟩ = some (.string d)
theorem PF.at_ {wr W:World} {b0 o0:Nat} {d:ByteArray} (h:PF wr b0 o0 d) (hs:Since wr W):W.cell? ⟨b0,o0 + 3,none⟩ = some (.string d):=(Below.cell hs (p:=⟨b0,o0 + 3,none⟩) h.lt).trans h.cell
theorem tags_lit (W:World) (t:Int):IntsS (W.alloc (.cells #[.int .i64 t] 3)) (.slice (some ⟨W.heap.size,0,none⟩) 1 1) [t]:=SlR.lit W 1 1 (([t]:List Int).map (Value.int .i64)) rfl (by decide) _ rfl 3
set_option maxHeartbeats 4000000 in
theorem proper_0 (N:List Nd) (x0:Nd) (hx0:N[0]? = some x0) (Ns:List (List Nd)) (c1:∀ w v,TreeS w v N -> Calls Tryz.prog 49 #[v] w fun e w' => ∃ v',e = .returned v' /\ TreesS w' v' Ns /\ Since w w') (q:Bool) (hq:q = tagsB x0.c x0.t 0 [16]) (h3:q = true -> ((Ns.length:Int) != 3) = true):RdT 23 N (fun v => #[v]) (.bool false):=by
 intro w v hv
 have HT:=lH hv
 have HS:=lH (Since.refl w)
 obtain ⟨A0,q0,rfl,-,-⟩:=hv.slice
 obtain ⟨n0,hn0⟩:∃ n,n = N.length:=⟨_,rfl⟩
 rw [<- hn0] at HT ⊢
 clear hv hn0
 go_enter Tryz.func23,Tryz.ntmps23
 go_wp2_with fail
 refine (c1 _ _ HT.out).mono ?_
 rintro _ w1 ⟨v1,rfl,t1,h1⟩
 replace HS:=lH (HS.out.step h1)
 replace HT:=lH (HT.out.since h1)
 obtain ⟨A1,q1,rfl,-,-⟩:=t1.slice
 clear t1 h1
 go_wp2_with fail
 have hb:=(Since.refl w1).alloc (.cells #[.int .i64 16] 3)
 refine (is_rd _ _ 0 [16] (by decide) q hq _ _ _ ((fst_tree HT.out hx0).since hb) (tags_lit w1 16)).mono ?_
 rintro _ w2 ⟨rfl,h2⟩
 replace HS:=lH ((HS.out.step hb).step h2)
 clear h2 hb hq
 cases q
 · clear h3
   go_wp2_with fail
   go_ret
   exact ⟨rfl,HS.out⟩
 · have t3:=h3 rfl
   clear h3
   go_wp2_with fail
   go_ret
   exact ⟨rfl,HS.out⟩
theorem drew_since (w:World):Since w w.drew:=⟨rfl,rfl,rfl,Nat.le_refl _,fun _ _ => rfl⟩
set_option maxHeartbeats 8000000 in
theorem proper_1 (N:List Nd) (x0:Nd) (hx0:N[0]? = some x0) (N0 N1 N2:List Nd) (y0 y1 y2:Nd) (hy0:N0[0]? = some y0) (hy1:N1[0]? = some y1) (hy2:N2[0]? = some y2) (c1:∀ w v,TreeS w v N -> Calls Tryz.prog 49 #[v] w fun e w' => ∃ v',e = .returned v' /\ TreesS w' v' [N0,N1,N2] /\ Since w w') (_c3:Mak 41 #[.int .i64 1] (.string ⟨#[1]⟩)) (hq:true = tagsB x0.c x0.t 0 [16]) (q1:false = tagsB y0.c y0.t 0 [2]):RdT 23 N (fun v => #[v]) (.bool false):=by
 have Q1:=lH q1
 clear q1
 intro w v hv
 have HT:=lH hv
 have HS:=lH (Since.refl w)
 obtain ⟨A0,q0,rfl,-,-⟩:=hv.slice
 obtain ⟨n0,hn0⟩:∃ n,n = N.length:=⟨_,rfl⟩
 rw [<- hn0] at HT ⊢
 have HQ:=lH hq
 clear hv hn0 hq
 go_enter Tryz.func23,Tryz.ntmps23
 go_wp2_with fail
 refine (c1 _ _ HT.out).mono ?_
 rintro _ w1 ⟨v1,rfl,t1,h1⟩
 replace HS:=lH (HS.out.step h1)
 replace HT:=lH (HT.out.since h1)
 obtain ⟨bp,op,cp,e1,lp,hp⟩:=t1.form (by show 0 < 3; omega)
 replace e1:v1 = .slice (some ⟨bp,op,none⟩) 3 cp:=e1
 subst e1
 have HP:=lH hp
 clear t1 h1 hp
 go_wp2_with fail
 have hb:=(Since.refl w1).alloc (.cells #[.int .i64 16] 3)
 refine (is_rd _ _ 0 [16] (by decide) true HQ.out _ _ _ ((fst_tree HT.out hx0).since hb) (tags_lit w1 16)).mono ?_
 rintro _ w2 ⟨rfl,h2⟩
 have h3:=hb.step h2
 obtain ⟨z0,m0,T0⟩:=HP.out 0 N0 rfl
 obtain ⟨z1,m1,T1⟩:=HP.out 1 N1 rfl
 obtain ⟨z2,m2,T2⟩:=HP.out 2 N2 rfl
 replace m0:=(Below.cell h3 (p:=⟨bp,op + 0,none⟩) lp).trans m0
 replace m1:=(Below.cell h3 (p:=⟨bp,op + 1,none⟩) lp).trans m1
 replace m2:=(Below.cell h3 (p:=⟨bp,op + 2,none⟩) lp).trans m2
 rw [Nat.add_zero] at m0
 replace T0:=lH (T0.since h3)
 replace T1:=lH (T1.since h3)
 replace T2:=lH (T2.since h3)
 replace HS:=lH (HS.out.step h3)
 obtain ⟨b0,o0,d0,f0,-,-,l0,g0⟩:=T0.out.form (List.getElem?_eq_some_iff.1 hy0).1
 obtain ⟨k0,-,-,-,g4,-⟩:=g0 0 y0 hy0
 have HPF:=lH (show PF w2 b0 o0 y0.d from ⟨l0,by rw [Nat.zero_mul] at g4; exact g4⟩)
 have F0:=lH (fst_tree T0.out hy0)
 have F1:=lH (fst_tree T1.out hy1)
 have F2:=lH (fst_tree T2.out hy2)
 obtain ⟨p0,hp0⟩:∃ n,n = N0.length:=⟨_,rfl⟩
 have x0:(0:Int) < (p0:Int):=by have:=(List.getElem?_eq_some_iff.1 hy0).1; omega
 have x00:0 < p0:=by omega
 rw [<- hp0] at f0
 subst f0
 obtain ⟨A1,d1,e1,-,-⟩:=T1.out.slice
 obtain ⟨p1,hp1⟩:∃ n,n = N1.length:=⟨_,rfl⟩
 rw [<- hp1] at e1
 subst e1
 obtain ⟨A2,d2,e2,-,-⟩:=T2.out.slice
 obtain ⟨p2,hp2⟩:∃ n,n = N2.length:=⟨_,rfl⟩
 rw [<- hp2] at e2
 subst e2
 have HP2:=lH hp2
 clear hb h2 h3 HP HT HQ g0 g4 l0 lp hp0 hp1 hp2
 go_wp2_with fail
 go_quiet (fail)
 have HB:Hid (Since w2 (w2.drewN nq)):=lH (Att.belowN w2 nq)
 go_wp2_with fail
 refine RegW.start (fun W' => Hid (Since w2 W') /\ W'.cell? ⟨b0,o0 + 3,none⟩ = some (.string y0.d)) 32 (by kernel_rfl) ⟨lH (HB.out.step (drew_since _)),HPF.out.at_ (HB.out.step (drew_since _))⟩ (fun hHeld => ?_)
 replace HB:=lH (HB.out.step (drew_since _))
 clear m0 m1 m2
 refine RegW.take (i:=0) (v:=?_) rfl (by kernel_rfl) (by kernel_rfl) (by kernel_rfl) (by kernel_rfl) (fun _ _ _ h => h) (Or.inl ⟨by kernel_rfl, ?_⟩) (by assumption) ?_
 rotate_left
 · intro w hSw
   go_split_ands
   go_simp
   try with_reducible rfl
 try simp only [Act.put,List.setIfInBounds_toArray]
 refine RegW.only (i:=1) rfl (by kernel_rfl) (fun K hK => ?_)
 go_simp
 refine hK.out _ _ ⟨lH (HB.out.alloc (.cells #[.int .i64 2] 3)),HPF.out.at_ (HB.out.alloc _)⟩ (fun hHeld => ?_)
 replace HB:=lH (HB.out.alloc (.cells #[.int .i64 2] 3))
 clear hK K
 try simp only [Act.put,List.setIfInBounds_toArray,List.set_cons_zero,List.set_cons_succ]
 refine RegW.only (i:=2) rfl (by kernel_rfl) (fun K hK => ?_)
 go_simp
 go_at_call 50
 refine (is_rd _ _ 0 [2] (by show 0 < 1; omega) _ Q1.out _ _ _ (F0.out.since HB.out) (tags_lit _ 2)).mono ?_
 rintro _ w3 ⟨rfl,h3⟩
 replace HB:=lH (HB.out.step h3)
 clear h3
 refine hK.out _ _ ⟨HB,HPF.out.at_ HB.out⟩ (fun hHeld => ?_)
 clear hK K
 try simp only [Act.put,List.setIfInBounds_toArray,List.set_cons_zero,List.set_cons_succ]
 refine RegW.take (i:=3) (v:=?_) rfl (by kernel_rfl) (by kernel_rfl) (by kernel_rfl) (by kernel_rfl) (fun _ _ _ h => h) (Or.inl ⟨by kernel_rfl, ?_⟩) (by assumption) ?_
 rotate_left
 · intro w hSw
   go_split_ands
   go_simp
   try with_reducible rfl
 try simp only [Act.put,List.setIfInBounds_toArray]
 refine RegW.take (i:=4) (v:=undef) rfl (by kernel_rfl) (by kernel_rfl) (by kernel_rfl) (by kernel_rfl) (fun _ _ _ h => h) (Or.inr ⟨by kernel_rfl,rfl⟩) (by assumption) ?_
 try simp only [Act.put]
 refine RegW.take (i:=5) (v:=undef) rfl (by kernel_rfl) (by kernel_rfl) (by kernel_rfl) (by kernel_rfl) (fun _ _ _ h => h) (Or.inr ⟨by kernel_rfl,rfl⟩) (by assumption) ?_
 try simp only [Act.put]
 refine RegW.take (i:=6) (v:=undef) rfl (by kernel_rfl) (by kernel_rfl) (by kernel_rfl) (by kernel_rfl) (fun _ _ _ h => h) (Or.inr ⟨by kernel_rfl,rfl⟩) (by assumption) ?_
 try simp only [Act.put]
 refine RegW.take (i:=7) (v:=undef) rfl (by kernel_rfl) (by kernel_rfl) (by kernel_rfl) (by kernel_rfl) (fun _ _ _ h => h) (Or.inr ⟨by kernel_rfl,rfl⟩) (by assumption) ?_
 try simp only [Act.put]
 refine RegW.take (i:=8) (v:=undef) rfl (by kernel_rfl) (by kernel_rfl) (by kernel_rfl) (by kernel_rfl) (fun _ _ _ h => h) (Or.inr ⟨by kernel_rfl,rfl⟩) (by assumption) ?_
 try simp only [Act.put]
 refine RegW.take (i:=9) (v:=undef) rfl (by kernel_rfl) (by kernel_rfl) (by kernel_rfl) (by kernel_rfl) (fun _ _ _ h => h) (Or.inr ⟨by kernel_rfl,rfl⟩) (by assumption) ?_
 try simp only [Act.put]
 refine RegW.take (i:=10) (v:=?_) rfl (by kernel_rfl) (by kernel_rfl) (by kernel_rfl) (by kernel_rfl) (fun _ _ _ h => h) (Or.inl ⟨by kernel_rfl, ?_⟩) (by assumption) ?_
 rotate_left
 · intro w hSw
   go_split_ands
   go_simp
   try with_reducible rfl
 try simp only [Act.put]
 refine RegW.take (i:=11) (v:=?_) rfl (by kernel_rfl) (by kernel_rfl) (by kernel_rfl) (by kernel_rfl) (fun _ _ _ h => h) (Or.inl ⟨by kernel_rfl, ?_⟩) (by assumption) ?_
 rotate_left
 · intro w hSw
   go_split_ands
   go_simp
   try with_reducible rfl
 try simp only [Act.put]
 refine RegW.take (i:=12) (v:=undef) rfl (by kernel_rfl) (by kernel_rfl) (by kernel_rfl) (by kernel_rfl) (fun _ _ _ h => h) (Or.inr ⟨by kernel_rfl,rfl⟩) (by assumption) ?_
 try simp only [Act.put]
 refine RegW.take (i:=13) (v:=undef) rfl (by kernel_rfl) (by kernel_rfl) (by kernel_rfl) (by kernel_rfl) (fun _ _ _ h => h) (Or.inr ⟨by kernel_rfl,rfl⟩) (by assumption) ?_
 try simp only [Act.put]
 refine RegW.take (i:=14) (v:=undef) rfl (by kernel_rfl) (by kernel_rfl) (by kernel_rfl) (by kernel_rfl) (fun _ _ _ h => h) (Or.inr ⟨by kernel_rfl,rfl⟩) (by assumption) ?_
 try simp only [Act.put]
 refine RegW.take (i:=15) (v:=?_) rfl (by kernel_rfl) (by kernel_rfl) (by kernel_rfl) (by kernel_rfl) (fun _ _ _ h => h) (Or.inl ⟨by kernel_rfl, ?_⟩) (by assumption) ?_
 rotate_left
 · intro w hSw
   go_split_ands
   go_simp
   try with_reducible rfl
 try simp only [Act.put]
 refine RegW.take (i:=16) (v:=?_) rfl (by kernel_rfl) (by kernel_rfl) (by kernel_rfl) (by kernel_rfl) (fun _ _ _ h => h) (Or.inl ⟨by kernel_rfl, ?_⟩) (by assumption) ?_
 rotate_left
 · intro w hSw
   go_split_ands
   go_simp
   try with_reducible rfl
 try simp only [Act.put]
 refine RegW.take (i:=17) (v:=undef) rfl (by kernel_rfl) (by kernel_rfl) (by kernel_rfl) (by kernel_rfl) (fun _ _ _ h => h) (Or.inr ⟨by kernel_rfl,rfl⟩) (by assumption) ?_
 try simp only [Act.put]
 refine RegW.take (i:=18) (v:=undef) rfl (by kernel_rfl) (by kernel_rfl) (by kernel_rfl) (by kernel_rfl) (fun _ _ _ h => h) (Or.inr ⟨by kernel_rfl,rfl⟩) (by assumption) ?_
 try simp only [Act.put]
 refine RegW.take (i:=19) (v:=undef) rfl (by kernel_rfl) (by kernel_rfl) (by kernel_rfl) (by kernel_rfl) (fun _ _ _ h => h) (Or.inr ⟨by kernel_rfl,rfl⟩) (by assumption) ?_
 try simp only [Act.put]
 refine RegW.take (i:=20) (v:=?_) rfl (by kernel_rfl) (by kernel_rfl) (by kernel_rfl) (by kernel_rfl) (fun _ _ _ h => h) (Or.inl ⟨by kernel_rfl, ?_⟩) (by assumption) ?_
 rotate_left
 · intro w hSw
   go_split_ands
   go_simp
   try with_reducible rfl
 try simp only [Act.put]
 refine RegW.take (i:=21) (v:=?_) rfl (by kernel_rfl) (by kernel_rfl) (by kernel_rfl) (by kernel_rfl) (fun _ _ _ h => h) (Or.inl ⟨by kernel_rfl, ?_⟩) (by assumption) ?_
 rotate_left
 · intro w hSw
   go_split_ands
   go_simp
   try with_reducible rfl
 try simp only [Act.put]
 refine RegW.take (i:=22) (v:=undef) rfl (by kernel_rfl) (by kernel_rfl) (by kernel_rfl) (by kernel_rfl) (fun _ _ _ h => h) (Or.inr ⟨by kernel_rfl,rfl⟩) (by assumption) ?_
 try simp only [Act.put]
 refine RegW.take (i:=23) (v:=undef) rfl (by kernel_rfl) (by kernel_rfl) (by kernel_rfl) (by kernel_rfl) (fun _ _ _ h => h) (Or.inr ⟨by kernel_rfl,rfl⟩) (by assumption) ?_
 try simp only [Act.put]
 refine RegW.take (i:=24) (v:=undef) rfl (by kernel_rfl) (by kernel_rfl) (by kernel_rfl) (by kernel_rfl) (fun _ _ _ h => h) (Or.inr ⟨by kernel_rfl,rfl⟩) (by assumption) ?_
 try simp only [Act.put]
 refine RegW.take (i:=25) (v:=?_) rfl (by kernel_rfl) (by kernel_rfl) (by kernel_rfl) (by kernel_rfl) (fun _ _ _ h => h) (Or.inl ⟨by kernel_rfl, ?_⟩) (by assumption) ?_
 rotate_left
 · intro w hSw
   go_split_ands
   go_simp
   try with_reducible rfl
 try simp only [Act.put]
 refine RegW.take (i:=26) (v:=?_) rfl (by kernel_rfl) (by kernel_rfl) (by kernel_rfl) (by kernel_rfl) (fun _ _ _ h => h) (Or.inl ⟨by kernel_rfl, ?_⟩) (by assumption) ?_
 rotate_left
 · intro w hSw
   go_split_ands
   go_simp
   try with_reducible rfl
 try simp only [Act.put]
 refine RegW.take (i:=27) (v:=undef) rfl (by kernel_rfl) (by kernel_rfl) (by kernel_rfl) (by kernel_rfl) (fun _ _ _ h => h) (Or.inr ⟨by kernel_rfl,rfl⟩) (by assumption) ?_
 try simp only [Act.put]
 refine RegW.take (i:=28) (v:=undef) rfl (by kernel_rfl) (by kernel_rfl) (by kernel_rfl) (by kernel_rfl) (fun _ _ _ h => h) (Or.inr ⟨by kernel_rfl,rfl⟩) (by assumption) ?_
 try simp only [Act.put]
 refine RegW.take (i:=29) (v:=undef) rfl (by kernel_rfl) (by kernel_rfl) (by kernel_rfl) (by kernel_rfl) (fun _ _ _ h => h) (Or.inr ⟨by kernel_rfl,rfl⟩) (by assumption) ?_
 try simp only [Act.put]
 refine RegW.take (i:=30) (v:=undef) rfl (by kernel_rfl) (by kernel_rfl) (by kernel_rfl) (by kernel_rfl) (fun _ _ _ h => h) (Or.inr ⟨by kernel_rfl,rfl⟩) (by assumption) ?_
 try simp only [Act.put]
 refine RegW.take (i:=31) (v:=?_) rfl (by kernel_rfl) (by kernel_rfl) (by kernel_rfl) (by kernel_rfl) (fun _ _ _ h => h) (Or.inl ⟨by kernel_rfl, ?_⟩) (by assumption) ?_
 rotate_left
 · intro w hSw
   go_split_ands
   go_simp
   try with_reducible rfl
 try simp only [Act.put]
 refine RegW.last rfl (by kernel_rfl) (by kernel_rfl) ?_
 clear hHeld
 go_wp2_with fail
 go_ret
 exact ⟨rfl,HS.out.step HB.out⟩
set_option maxHeartbeats 8000000 in
theorem proper_2 (N:List Nd) (x0:Nd) (hx0:N[0]? = some x0) (N0 N1 N2:List Nd) (y0 y1 y2:Nd) (hy0:N0[0]? = some y0) (hy1:N1[0]? = some y1) (hy2:N2[0]? = some y2) (c1:∀ w v,TreeS w v N -> Calls Tryz.prog 49 #[v] w fun e w' => ∃ v',e = .returned v' /\ TreesS w' v' [N0,N1,N2] /\ Since w w') (c3:Mak 41 #[.int .i64 1] (.string ⟨#[1]⟩)) (hq:true = tagsB x0.c x0.t 0 [16]) (q1:true = tagsB y0.c y0.t 0 [2]) (t1:(y0.d.toList == [1]) = false):RdT 23 N (fun v => #[v]) (.bool false):=by
 have Q1:=lH q1
 clear q1
 intro w v hv
 have HT:=lH hv
 have HS:=lH (Since.refl w)
 obtain ⟨A0,q0,rfl,-,-⟩:=hv.slice
 obtain ⟨n0,hn0⟩:∃ n,n = N.length:=⟨_,rfl⟩
 rw [<- hn0] at HT ⊢
 have HQ:=lH hq
 clear hv hn0 hq
 go_enter Tryz.func23,Tryz.ntmps23
 go_wp2_with fail
 refine (c1 _ _ HT.out).mono ?_
 rintro _ w1 ⟨v1,rfl,t1,h1⟩
 replace HS:=lH (HS.out.step h1)
 replace HT:=lH (HT.out.since h1)
 obtain ⟨bp,op,cp,e1,lp,hp⟩:=t1.form (by show 0 < 3; omega)
 replace e1:v1 = .slice (some ⟨bp,op,none⟩) 3 cp:=e1
 subst e1
 have HP:=lH hp
 clear t1 h1 hp
 go_wp2_with fail
 have hb:=(Since.refl w1).alloc (.cells #[.int .i64 16] 3)
 refine (is_rd _ _ 0 [16] (by decide) true HQ.out _ _ _ ((fst_tree HT.out hx0).since hb) (tags_lit w1 16)).mono ?_
 rintro _ w2 ⟨rfl,h2⟩
 have h3:=hb.step h2
 obtain ⟨z0,m0,T0⟩:=HP.out 0 N0 rfl
 obtain ⟨z1,m1,T1⟩:=HP.out 1 N1 rfl
 obtain ⟨z2,m2,T2⟩:=HP.out 2 N2 rfl
 replace m0:=(Below.cell h3 (p:=⟨bp,op + 0,none⟩) lp).trans m0
 replace m1:=(Below.cell h3 (p:=⟨bp,op + 1,none⟩) lp).trans m1
 replace m2:=(Below.cell h3 (p:=⟨bp,op + 2,none⟩) lp).trans m2
 rw [Nat.add_zero] at m0
 replace T0:=lH (T0.since h3)
 replace T1:=lH (T1.since h3)
 replace T2:=lH (T2.since h3)
 replace HS:=lH (HS.out.step h3)
 obtain ⟨b0,o0,d0,f0,-,-,l0,g0⟩:=T0.out.form (List.getElem?_eq_some_iff.1 hy0).1
 obtain ⟨k0,-,-,-,g4,-⟩:=g0 0 y0 hy0
 have HPF:=lH (show PF w2 b0 o0 y0.d from ⟨l0,by rw [Nat.zero_mul] at g4; exact g4⟩)
 have F0:=lH (fst_tree T0.out hy0)
 have F1:=lH (fst_tree T1.out hy1)
 have F2:=lH (fst_tree T2.out hy2)
 obtain ⟨p0,hp0⟩:∃ n,n = N0.length:=⟨_,rfl⟩
 have x0:(0:Int) < (p0:Int):=by have:=(List.getElem?_eq_some_iff.1 hy0).1; omega
 have x00:0 < p0:=by omega
 rw [<- hp0] at f0
 subst f0
 obtain ⟨A1,d1,e1,-,-⟩:=T1.out.slice
 obtain ⟨p1,hp1⟩:∃ n,n = N1.length:=⟨_,rfl⟩
 rw [<- hp1] at e1
 subst e1
 obtain ⟨A2,d2,e2,-,-⟩:=T2.out.slice
 obtain ⟨p2,hp2⟩:∃ n,n = N2.length:=⟨_,rfl⟩
 rw [<- hp2] at e2
 subst e2
 have HP2:=lH hp2
 clear hb h2 h3 HP HT HQ g0 g4 l0 lp hp0 hp1 hp2
 go_wp2_with fail
 go_quiet (fail)
 have HB:Hid (Since w2 (w2.drewN nq)):=lH (Att.belowN w2 nq)
 go_wp2_with fail
 refine RegW.start (fun W' => Hid (Since w2 W') /\ W'.cell? ⟨b0,o0 + 3,none⟩ = some (.string y0.d)) 32 (by kernel_rfl) ⟨lH (HB.out.step (drew_since _)),HPF.out.at_ (HB.out.step (drew_since _))⟩ (fun hHeld => ?_)
 replace HB:=lH (HB.out.step (drew_since _))
 clear m0 m1 m2
 refine RegW.take (i:=0) (v:=?_) rfl (by kernel_rfl) (by kernel_rfl) (by kernel_rfl) (by kernel_rfl) (fun _ _ _ h => h) (Or.inl ⟨by kernel_rfl, ?_⟩) (by assumption) ?_
 rotate_left
 · intro w hSw
   go_split_ands
   go_simp
   try with_reducible rfl
 try simp only [Act.put,List.setIfInBounds_toArray]
 refine RegW.only (i:=1) rfl (by kernel_rfl) (fun K hK => ?_)
 go_simp
 refine hK.out _ _ ⟨lH (HB.out.alloc (.cells #[.int .i64 2] 3)),HPF.out.at_ (HB.out.alloc _)⟩ (fun hHeld => ?_)
 replace HB:=lH (HB.out.alloc (.cells #[.int .i64 2] 3))
 clear hK K
 try simp only [Act.put,List.setIfInBounds_toArray,List.set_cons_zero,List.set_cons_succ]
 refine RegW.only (i:=2) rfl (by kernel_rfl) (fun K hK => ?_)
 go_simp
 go_at_call 50
 refine (is_rd _ _ 0 [2] (by show 0 < 1; omega) _ Q1.out _ _ _ (F0.out.since HB.out) (tags_lit _ 2)).mono ?_
 rintro _ w3 ⟨rfl,h3⟩
 replace HB:=lH (HB.out.step h3)
 clear h3
 refine hK.out _ _ ⟨HB,HPF.out.at_ HB.out⟩ (fun hHeld => ?_)
 clear hK K
 try simp only [Act.put,List.setIfInBounds_toArray,List.set_cons_zero,List.set_cons_succ]
 refine RegW.take (i:=3) (v:=?_) rfl (by kernel_rfl) (by kernel_rfl) (by kernel_rfl) (by kernel_rfl) (fun _ _ _ h => h) (Or.inl ⟨by kernel_rfl, ?_⟩) (by assumption) ?_
 rotate_left
 · intro w hSw
   go_split_ands
   go_simp
   try with_reducible rfl
 try simp only [Act.put,List.setIfInBounds_toArray]
 refine RegW.take (i:=4) (v:=?_) rfl (by kernel_rfl) (by kernel_rfl) (by kernel_rfl) (by kernel_rfl) (fun _ _ _ h => h) (Or.inl ⟨by kernel_rfl, ?_⟩) (by assumption) ?_
 rotate_left
 · intro w hSw
   go_split_ands
   go_simp
   try with_reducible rfl
 try simp only [Act.put]
 refine RegW.take (i:=5) (v:=?_) rfl (by kernel_rfl) (by kernel_rfl) (by kernel_rfl) (by kernel_rfl) (fun _ _ _ h => h) (Or.inl ⟨by kernel_rfl, ?_⟩) (by assumption) ?_
 rotate_left
 · intro w hSw
   go_split_ands
   go_simp
   try with_reducible rfl
 try simp only [Act.put]
 refine RegW.take (i:=6) (v:=?_) rfl (by kernel_rfl) (by kernel_rfl) (by kernel_rfl) (by kernel_rfl) (fun _ _ _ h => h) (Or.inl ⟨by kernel_rfl, ?_⟩) (by assumption) ?_
 rotate_left
 · intro w hSw
   go_split_ands
   go_simp
   try with_reducible rfl
 try simp only [Act.put]
 refine RegW.take (i:=7) (v:=?_) rfl (by kernel_rfl) (by kernel_rfl) (by kernel_rfl) (by kernel_rfl) (fun _ _ _ h => h) (Or.inl ⟨by kernel_rfl, ?_⟩) (by assumption) ?_
 rotate_left
 · intro w hSw
   go_split_ands
   go_simp
   try with_reducible rfl
 try simp only [Act.put]
 refine RegW.only (i:=8) rfl (by kernel_rfl) (fun K hK => ?_)
 go_simp
 go_at_call 41
 refine c3.calls0 ?_
 intro w4 h4
 replace HB:=lH (HB.out.step h4)
 clear h4
 refine hK.out _ _ ⟨HB,HPF.out.at_ HB.out⟩ (fun hHeld => ?_)
 clear hK K
 try simp only [Act.put,List.setIfInBounds_toArray,List.set_cons_zero,List.set_cons_succ]
 refine RegW.take (i:=9) (v:=?_) rfl (by kernel_rfl) (by kernel_rfl) (by kernel_rfl) (by kernel_rfl) (fun _ _ _ h => h) (Or.inl ⟨by kernel_rfl, ?_⟩) (by assumption) ?_
 rotate_left
 · intro w hSw
   go_split_ands
   go_simp
   try with_reducible rfl
 try simp only [Act.put,List.setIfInBounds_toArray]
 refine RegW.take (i:=10) (v:=?_) rfl (by kernel_rfl) (by kernel_rfl) (by kernel_rfl) (by kernel_rfl) (fun _ _ _ h => h) (Or.inl ⟨by kernel_rfl, ?_⟩) (by assumption) ?_
 rotate_left
 · intro w hSw
   go_split_ands
   go_simp
   try with_reducible rfl
 try simp only [Act.put]
 refine RegW.take (i:=11) (v:=?_) rfl (by kernel_rfl) (by kernel_rfl) (by kernel_rfl) (by kernel_rfl) (fun _ _ _ h => h) (Or.inl ⟨by kernel_rfl, ?_⟩) (by assumption) ?_
 rotate_left
 · intro w hSw
   go_split_ands
   go_simp
   try with_reducible rfl
 try simp only [Act.put]
 refine RegW.take (i:=12) (v:=undef) rfl (by kernel_rfl) (by kernel_rfl) (by kernel_rfl) (by kernel_rfl) (fun _ _ _ h => h) (Or.inr ⟨by kernel_rfl,rfl⟩) (by assumption) ?_
 try simp only [Act.put]
 refine RegW.take (i:=13) (v:=undef) rfl (by kernel_rfl) (by kernel_rfl) (by kernel_rfl) (by kernel_rfl) (fun _ _ _ h => h) (Or.inr ⟨by kernel_rfl,rfl⟩) (by assumption) ?_
 try simp only [Act.put]
 refine RegW.take (i:=14) (v:=undef) rfl (by kernel_rfl) (by kernel_rfl) (by kernel_rfl) (by kernel_rfl) (fun _ _ _ h => h) (Or.inr ⟨by kernel_rfl,rfl⟩) (by assumption) ?_
 try simp only [Act.put]
 refine RegW.take (i:=15) (v:=?_) rfl (by kernel_rfl) (by kernel_rfl) (by kernel_rfl) (by kernel_rfl) (fun _ _ _ h => h) (Or.inl ⟨by kernel_rfl, ?_⟩) (by assumption) ?_
 rotate_left
 · intro w hSw
   go_split_ands
   go_simp
   try with_reducible rfl
 try simp only [Act.put]
 refine RegW.take (i:=16) (v:=?_) rfl (by kernel_rfl) (by kernel_rfl) (by kernel_rfl) (by kernel_rfl) (fun _ _ _ h => h) (Or.inl ⟨by kernel_rfl, ?_⟩) (by assumption) ?_
 rotate_left
 · intro w hSw
   go_split_ands
   go_simp
   try with_reducible rfl
 try simp only [Act.put]
 refine RegW.take (i:=17) (v:=undef) rfl (by kernel_rfl) (by kernel_rfl) (by kernel_rfl) (by kernel_rfl) (fun _ _ _ h => h) (Or.inr ⟨by kernel_rfl,rfl⟩) (by assumption) ?_
 try simp only [Act.put]
 refine RegW.take (i:=18) (v:=undef) rfl (by kernel_rfl) (by kernel_rfl) (by kernel_rfl) (by kernel_rfl) (fun _ _ _ h => h) (Or.inr ⟨by kernel_rfl,rfl⟩) (by assumption) ?_
 try simp only [Act.put]
 refine RegW.take (i:=19) (v:=undef) rfl (by kernel_rfl) (by kernel_rfl) (by kernel_rfl) (by kernel_rfl) (fun _ _ _ h => h) (Or.inr ⟨by kernel_rfl,rfl⟩) (by assumption) ?_
 try simp only [Act.put]
 refine RegW.take (i:=20) (v:=?_) rfl (by kernel_rfl) (by kernel_rfl) (by kernel_rfl) (by kernel_rfl) (fun _ _ _ h => h) (Or.inl ⟨by kernel_rfl, ?_⟩) (by assumption) ?_
 rotate_left
 · intro w hSw
   go_split_ands
   go_simp
   try with_reducible rfl
 try simp only [Act.put]
 refine RegW.take (i:=21) (v:=?_) rfl (by kernel_rfl) (by kernel_rfl) (by kernel_rfl) (by kernel_rfl) (fun _ _ _ h => h) (Or.inl ⟨by kernel_rfl, ?_⟩) (by assumption) ?_
 rotate_left
 · intro w hSw
   go_split_ands
   go_simp
   try with_reducible rfl
 try simp only [Act.put]
 refine RegW.take (i:=22) (v:=undef) rfl (by kernel_rfl) (by kernel_rfl) (by kernel_rfl) (by kernel_rfl) (fun _ _ _ h => h) (Or.inr ⟨by kernel_rfl,rfl⟩) (by assumption) ?_
 try simp only [Act.put]
 refine RegW.take (i:=23) (v:=undef) rfl (by kernel_rfl) (by kernel_rfl) (by kernel_rfl) (by kernel_rfl) (fun _ _ _ h => h) (Or.inr ⟨by kernel_rfl,rfl⟩) (by assumption) ?_
 try simp only [Act.put]
 refine RegW.take (i:=24) (v:=undef) rfl (by kernel_rfl) (by kernel_rfl) (by kernel_rfl) (by kernel_rfl) (fun _ _ _ h => h) (Or.inr ⟨by kernel_rfl,rfl⟩) (by assumption) ?_
 try simp only [Act.put]
 refine RegW.take (i:=25) (v:=?_) rfl (by kernel_rfl) (by kernel_rfl) (by kernel_rfl) (by kernel_rfl) (fun _ _ _ h => h) (Or.inl ⟨by kernel_rfl, ?_⟩) (by assumption) ?_
 rotate_left
 · intro w hSw
   go_split_ands
   go_simp
   try with_reducible rfl
 try simp only [Act.put]
 refine RegW.take (i:=26) (v:=?_) rfl (by kernel_rfl) (by kernel_rfl) (by kernel_rfl) (by kernel_rfl) (fun _ _ _ h => h) (Or.inl ⟨by kernel_rfl, ?_⟩) (by assumption) ?_
 rotate_left
 · intro w hSw
   go_split_ands
   go_simp
   try with_reducible rfl
 try simp only [Act.put]
 refine RegW.take (i:=27) (v:=undef) rfl (by kernel_rfl) (by kernel_rfl) (by kernel_rfl) (by kernel_rfl) (fun _ _ _ h => h) (Or.inr ⟨by kernel_rfl,rfl⟩) (by assumption) ?_
 try simp only [Act.put]
 refine RegW.take (i:=28) (v:=undef) rfl (by kernel_rfl) (by kernel_rfl) (by kernel_rfl) (by kernel_rfl) (fun _ _ _ h => h) (Or.inr ⟨by kernel_rfl,rfl⟩) (by assumption) ?_
 try simp only [Act.put]
 refine RegW.take (i:=29) (v:=undef) rfl (by kernel_rfl) (by kernel_rfl) (by kernel_rfl) (by kernel_rfl) (fun _ _ _ h => h) (Or.inr ⟨by kernel_rfl,rfl⟩) (by assumption) ?_
 try simp only [Act.put]
 refine RegW.take (i:=30) (v:=undef) rfl (by kernel_rfl) (by kernel_rfl) (by kernel_rfl) (by kernel_rfl) (fun _ _ _ h => h) (Or.inr ⟨by kernel_rfl,rfl⟩) (by assumption) ?_
 try simp only [Act.put]
 refine RegW.take (i:=31) (v:=?_) rfl (by kernel_rfl) (by kernel_rfl) (by kernel_rfl) (by kernel_rfl) (fun _ _ _ h => h) (Or.inl ⟨by kernel_rfl, ?_⟩) (by assumption) ?_
 rotate_left
 · intro w hSw
   go_split_ands
   go_simp
   try with_reducible rfl
 try simp only [Act.put]
 refine RegW.last rfl (by kernel_rfl) (by kernel_rfl) ?_
 clear hHeld
 go_wp2_with fail
 go_ret
 exact ⟨rfl,HS.out.step HB.out⟩
set_option maxHeartbeats 8000000 in
theorem proper_3 (N:List Nd) (x0:Nd) (hx0:N[0]? = some x0) (N0 N1 N2:List Nd) (y0 y1 y2:Nd) (hy0:N0[0]? = some y0) (hy1:N1[0]? = some y1) (hy2:N2[0]? = some y2) (c1:∀ w v,TreeS w v N -> Calls Tryz.prog 49 #[v] w fun e w' => ∃ v',e = .returned v' /\ TreesS w' v' [N0,N1,N2] /\ Since w w') (c3:Mak 41 #[.int .i64 1] (.string ⟨#[1]⟩)) (hq:true = tagsB x0.c x0.t 0 [16]) (q1:true = tagsB y0.c y0.t 0 [2]) (t1:(y0.d.toList == [1]) = true) (q2:false = tagsB y1.c y1.t 0 [4]):RdT 23 N (fun v => #[v]) (.bool false):=by
 have Q1:=lH q1
 have Q2:=lH q2
 clear q1 q2
 intro w v hv
 have HT:=lH hv
 have HS:=lH (Since.refl w)
 obtain ⟨A0,q0,rfl,-,-⟩:=hv.slice
 obtain ⟨n0,hn0⟩:∃ n,n = N.length:=⟨_,rfl⟩
 rw [<- hn0] at HT ⊢
 have HQ:=lH hq
 clear hv hn0 hq
 go_enter Tryz.func23,Tryz.ntmps23
 go_wp2_with fail
 refine (c1 _ _ HT.out).mono ?_
 rintro _ w1 ⟨v1,rfl,t1,h1⟩
 replace HS:=lH (HS.out.step h1)
 replace HT:=lH (HT.out.since h1)
 obtain ⟨bp,op,cp,e1,lp,hp⟩:=t1.form (by show 0 < 3; omega)
 replace e1:v1 = .slice (some ⟨bp,op,none⟩) 3 cp:=e1
 subst e1
 have HP:=lH hp
 clear t1 h1 hp
 go_wp2_with fail
 have hb:=(Since.refl w1).alloc (.cells #[.int .i64 16] 3)
 refine (is_rd _ _ 0 [16] (by decide) true HQ.out _ _ _ ((fst_tree HT.out hx0).since hb) (tags_lit w1 16)).mono ?_
 rintro _ w2 ⟨rfl,h2⟩
 have h3:=hb.step h2
 obtain ⟨z0,m0,T0⟩:=HP.out 0 N0 rfl
 obtain ⟨z1,m1,T1⟩:=HP.out 1 N1 rfl
 obtain ⟨z2,m2,T2⟩:=HP.out 2 N2 rfl
 replace m0:=(Below.cell h3 (p:=⟨bp,op + 0,none⟩) lp).trans m0
 replace m1:=(Below.cell h3 (p:=⟨bp,op + 1,none⟩) lp).trans m1
 replace m2:=(Below.cell h3 (p:=⟨bp,op + 2,none⟩) lp).trans m2
 rw [Nat.add_zero] at m0
 replace T0:=lH (T0.since h3)
 replace T1:=lH (T1.since h3)
 replace T2:=lH (T2.since h3)
 replace HS:=lH (HS.out.step h3)
 obtain ⟨b0,o0,d0,f0,-,-,l0,g0⟩:=T0.out.form (List.getElem?_eq_some_iff.1 hy0).1
 obtain ⟨k0,-,-,-,g4,-⟩:=g0 0 y0 hy0
 have HPF:=lH (show PF w2 b0 o0 y0.d from ⟨l0,by rw [Nat.zero_mul] at g4; exact g4⟩)
 have F0:=lH (fst_tree T0.out hy0)
 have F1:=lH (fst_tree T1.out hy1)
 have F2:=lH (fst_tree T2.out hy2)
 obtain ⟨p0,hp0⟩:∃ n,n = N0.length:=⟨_,rfl⟩
 have x0:(0:Int) < (p0:Int):=by have:=(List.getElem?_eq_some_iff.1 hy0).1; omega
 have x00:0 < p0:=by omega
 rw [<- hp0] at f0
 subst f0
 obtain ⟨A1,d1,e1,-,-⟩:=T1.out.slice
 obtain ⟨p1,hp1⟩:∃ n,n = N1.length:=⟨_,rfl⟩
 rw [<- hp1] at e1
 subst e1
 obtain ⟨A2,d2,e2,-,-⟩:=T2.out.slice
 obtain ⟨p2,hp2⟩:∃ n,n = N2.length:=⟨_,rfl⟩
 rw [<- hp2] at e2
 subst e2
 have HP2:=lH hp2
 clear hb h2 h3 HP HT HQ g0 g4 l0 lp hp0 hp1 hp2
 go_wp2_with fail
 go_quiet (fail)
 have HB:Hid (Since w2 (w2.drewN nq)):=lH (Att.belowN w2 nq)
 go_wp2_with fail
 refine RegW.start (fun W' => Hid (Since w2 W') /\ W'.cell? ⟨b0,o0 + 3,none⟩ = some (.string y0.d)) 32 (by kernel_rfl) ⟨lH (HB.out.step (drew_since _)),HPF.out.at_ (HB.out.step (drew_since _))⟩ (fun hHeld => ?_)
 replace HB:=lH (HB.out.step (drew_since _))
 clear m0 m1 m2
 refine RegW.take (i:=0) (v:=?_) rfl (by kernel_rfl) (by kernel_rfl) (by kernel_rfl) (by kernel_rfl) (fun _ _ _ h => h) (Or.inl ⟨by kernel_rfl, ?_⟩) (by assumption) ?_
 rotate_left
 · intro w hSw
   go_split_ands
   go_simp
   try with_reducible rfl
 try simp only [Act.put,List.setIfInBounds_toArray]
 refine RegW.only (i:=1) rfl (by kernel_rfl) (fun K hK => ?_)
 go_simp
 refine hK.out _ _ ⟨lH (HB.out.alloc (.cells #[.int .i64 2] 3)),HPF.out.at_ (HB.out.alloc _)⟩ (fun hHeld => ?_)
 replace HB:=lH (HB.out.alloc (.cells #[.int .i64 2] 3))
 clear hK K
 try simp only [Act.put,List.setIfInBounds_toArray,List.set_cons_zero,List.set_cons_succ]
 refine RegW.only (i:=2) rfl (by kernel_rfl) (fun K hK => ?_)
 go_simp
 go_at_call 50
 refine (is_rd _ _ 0 [2] (by show 0 < 1; omega) _ Q1.out _ _ _ (F0.out.since HB.out) (tags_lit _ 2)).mono ?_
 rintro _ w3 ⟨rfl,h3⟩
 replace HB:=lH (HB.out.step h3)
 clear h3
 refine hK.out _ _ ⟨HB,HPF.out.at_ HB.out⟩ (fun hHeld => ?_)
 clear hK K
 try simp only [Act.put,List.setIfInBounds_toArray,List.set_cons_zero,List.set_cons_succ]
 refine RegW.take (i:=3) (v:=?_) rfl (by kernel_rfl) (by kernel_rfl) (by kernel_rfl) (by kernel_rfl) (fun _ _ _ h => h) (Or.inl ⟨by kernel_rfl, ?_⟩) (by assumption) ?_
 rotate_left
 · intro w hSw
   go_split_ands
   go_simp
   try with_reducible rfl
 try simp only [Act.put,List.setIfInBounds_toArray]
 refine RegW.take (i:=4) (v:=?_) rfl (by kernel_rfl) (by kernel_rfl) (by kernel_rfl) (by kernel_rfl) (fun _ _ _ h => h) (Or.inl ⟨by kernel_rfl, ?_⟩) (by assumption) ?_
 rotate_left
 · intro w hSw
   go_split_ands
   go_simp
   try with_reducible rfl
 try simp only [Act.put]
 refine RegW.take (i:=5) (v:=?_) rfl (by kernel_rfl) (by kernel_rfl) (by kernel_rfl) (by kernel_rfl) (fun _ _ _ h => h) (Or.inl ⟨by kernel_rfl, ?_⟩) (by assumption) ?_
 rotate_left
 · intro w hSw
   go_split_ands
   go_simp
   try with_reducible rfl
 try simp only [Act.put]
 refine RegW.take (i:=6) (v:=?_) rfl (by kernel_rfl) (by kernel_rfl) (by kernel_rfl) (by kernel_rfl) (fun _ _ _ h => h) (Or.inl ⟨by kernel_rfl, ?_⟩) (by assumption) ?_
 rotate_left
 · intro w hSw
   go_split_ands
   go_simp
   try with_reducible rfl
 try simp only [Act.put]
 refine RegW.take (i:=7) (v:=?_) rfl (by kernel_rfl) (by kernel_rfl) (by kernel_rfl) (by kernel_rfl) (fun _ _ _ h => h) (Or.inl ⟨by kernel_rfl, ?_⟩) (by assumption) ?_
 rotate_left
 · intro w hSw
   go_split_ands
   go_simp
   try with_reducible rfl
 try simp only [Act.put]
 refine RegW.only (i:=8) rfl (by kernel_rfl) (fun K hK => ?_)
 go_simp
 go_at_call 41
 refine c3.calls0 ?_
 intro w4 h4
 replace HB:=lH (HB.out.step h4)
 clear h4
 refine hK.out _ _ ⟨HB,HPF.out.at_ HB.out⟩ (fun hHeld => ?_)
 clear hK K
 try simp only [Act.put,List.setIfInBounds_toArray,List.set_cons_zero,List.set_cons_succ]
 refine RegW.take (i:=9) (v:=?_) rfl (by kernel_rfl) (by kernel_rfl) (by kernel_rfl) (by kernel_rfl) (fun _ _ _ h => h) (Or.inl ⟨by kernel_rfl, ?_⟩) (by assumption) ?_
 rotate_left
 · intro w hSw
   go_split_ands
   go_simp
   try with_reducible rfl
 try simp only [Act.put,List.setIfInBounds_toArray]
 refine RegW.take (i:=10) (v:=?_) rfl (by kernel_rfl) (by kernel_rfl) (by kernel_rfl) (by kernel_rfl) (fun _ _ _ h => h) (Or.inl ⟨by kernel_rfl, ?_⟩) (by assumption) ?_
 rotate_left
 · intro w hSw
   go_split_ands
   go_simp
   try with_reducible rfl
 try simp only [Act.put]
 refine RegW.take (i:=11) (v:=?_) rfl (by kernel_rfl) (by kernel_rfl) (by kernel_rfl) (by kernel_rfl) (fun _ _ _ h => h) (Or.inl ⟨by kernel_rfl, ?_⟩) (by assumption) ?_
 rotate_left
 · intro w hSw
   go_split_ands
   go_simp
   try with_reducible rfl
 try simp only [Act.put]
 refine RegW.take (i:=12) (v:=?_) rfl (by kernel_rfl) (by kernel_rfl) (by kernel_rfl) (by kernel_rfl) (fun _ _ _ h => h) (Or.inl ⟨by kernel_rfl, ?_⟩) (by assumption) ?_
 rotate_left
 · intro w hSw
   go_split_ands
   go_simp
   try with_reducible rfl
 try simp only [Act.put]
 refine RegW.only (i:=13) rfl (by kernel_rfl) (fun K hK => ?_)
 go_simp
 refine hK.out _ _ ⟨lH (HB.out.alloc (.cells #[.int .i64 4] 3)),HPF.out.at_ (HB.out.alloc _)⟩ (fun hHeld => ?_)
 replace HB:=lH (HB.out.alloc (.cells #[.int .i64 4] 3))
 clear hK K
 try simp only [Act.put,List.setIfInBounds_toArray,List.set_cons_zero,List.set_cons_succ]
 refine RegW.only (i:=14) rfl (by kernel_rfl) (fun K hK => ?_)
 go_simp
 go_at_call 50
 refine (is_rd _ _ 0 [4] (by show 0 < 1; omega) _ Q2.out _ _ _ (F1.out.since HB.out) (tags_lit _ 4)).mono ?_
 rintro _ w5 ⟨rfl,h5⟩
 replace HB:=lH (HB.out.step h5)
 clear h5
 refine hK.out _ _ ⟨HB,HPF.out.at_ HB.out⟩ (fun hHeld => ?_)
 clear hK K
 try simp only [Act.put,List.setIfInBounds_toArray,List.set_cons_zero,List.set_cons_succ]
 refine RegW.take (i:=15) (v:=?_) rfl (by kernel_rfl) (by kernel_rfl) (by kernel_rfl) (by kernel_rfl) (fun _ _ _ h => h) (Or.inl ⟨by kernel_rfl, ?_⟩) (by assumption) ?_
 rotate_left
 · intro w hSw
   go_split_ands
   go_simp
   try with_reducible rfl
 try simp only [Act.put,List.setIfInBounds_toArray]
 refine RegW.take (i:=16) (v:=?_) rfl (by kernel_rfl) (by kernel_rfl) (by kernel_rfl) (by kernel_rfl) (fun _ _ _ h => h) (Or.inl ⟨by kernel_rfl, ?_⟩) (by assumption) ?_
 rotate_left
 · intro w hSw
   go_split_ands
   go_simp
   try with_reducible rfl
 try simp only [Act.put]
 refine RegW.take (i:=17) (v:=undef) rfl (by kernel_rfl) (by kernel_rfl) (by kernel_rfl) (by kernel_rfl) (fun _ _ _ h => h) (Or.inr ⟨by kernel_rfl,rfl⟩) (by assumption) ?_
 try simp only [Act.put]
 refine RegW.take (i:=18) (v:=undef) rfl (by kernel_rfl) (by kernel_rfl) (by kernel_rfl) (by kernel_rfl) (fun _ _ _ h => h) (Or.inr ⟨by kernel_rfl,rfl⟩) (by assumption) ?_
 try simp only [Act.put]
 refine RegW.take (i:=19) (v:=undef) rfl (by kernel_rfl) (by kernel_rfl) (by kernel_rfl) (by kernel_rfl) (fun _ _ _ h => h) (Or.inr ⟨by kernel_rfl,rfl⟩) (by assumption) ?_
 try simp only [Act.put]
 refine RegW.take (i:=20) (v:=?_) rfl (by kernel_rfl) (by kernel_rfl) (by kernel_rfl) (by kernel_rfl) (fun _ _ _ h => h) (Or.inl ⟨by kernel_rfl, ?_⟩) (by assumption) ?_
 rotate_left
 · intro w hSw
   go_split_ands
   go_simp
   try with_reducible rfl
 try simp only [Act.put]
 refine RegW.take (i:=21) (v:=?_) rfl (by kernel_rfl) (by kernel_rfl) (by kernel_rfl) (by kernel_rfl) (fun _ _ _ h => h) (Or.inl ⟨by kernel_rfl, ?_⟩) (by assumption) ?_
 rotate_left
 · intro w hSw
   go_split_ands
   go_simp
   try with_reducible rfl
 try simp only [Act.put]
 refine RegW.take (i:=22) (v:=undef) rfl (by kernel_rfl) (by kernel_rfl) (by kernel_rfl) (by kernel_rfl) (fun _ _ _ h => h) (Or.inr ⟨by kernel_rfl,rfl⟩) (by assumption) ?_
 try simp only [Act.put]
 refine RegW.take (i:=23) (v:=undef) rfl (by kernel_rfl) (by kernel_rfl) (by kernel_rfl) (by kernel_rfl) (fun _ _ _ h => h) (Or.inr ⟨by kernel_rfl,rfl⟩) (by assumption) ?_
 try simp only [Act.put]
 refine RegW.take (i:=24) (v:=undef) rfl (by kernel_rfl) (by kernel_rfl) (by kernel_rfl) (by kernel_rfl) (fun _ _ _ h => h) (Or.inr ⟨by kernel_rfl,rfl⟩) (by assumption) ?_
 try simp only [Act.put]
 refine RegW.take (i:=25) (v:=?_) rfl (by kernel_rfl) (by kernel_rfl) (by kernel_rfl) (by kernel_rfl) (fun _ _ _ h => h) (Or.inl ⟨by kernel_rfl, ?_⟩) (by assumption) ?_
 rotate_left
 · intro w hSw
   go_split_ands
   go_simp
   try with_reducible rfl
 try simp only [Act.put]
 refine RegW.take (i:=26) (v:=?_) rfl (by kernel_rfl) (by kernel_rfl) (by kernel_rfl) (by kernel_rfl) (fun _ _ _ h => h) (Or.inl ⟨by kernel_rfl, ?_⟩) (by assumption) ?_
 rotate_left
 · intro w hSw
   go_split_ands
   go_simp
   try with_reducible rfl
 try simp only [Act.put]
 refine RegW.take (i:=27) (v:=undef) rfl (by kernel_rfl) (by kernel_rfl) (by kernel_rfl) (by kernel_rfl) (fun _ _ _ h => h) (Or.inr ⟨by kernel_rfl,rfl⟩) (by assumption) ?_
 try simp only [Act.put]
 refine RegW.take (i:=28) (v:=undef) rfl (by kernel_rfl) (by kernel_rfl) (by kernel_rfl) (by kernel_rfl) (fun _ _ _ h => h) (Or.inr ⟨by kernel_rfl,rfl⟩) (by assumption) ?_
 try simp only [Act.put]
 refine RegW.take (i:=29) (v:=undef) rfl (by kernel_rfl) (by kernel_rfl) (by kernel_rfl) (by kernel_rfl) (fun _ _ _ h => h) (Or.inr ⟨by kernel_rfl,rfl⟩) (by assumption) ?_
 try simp only [Act.put]
 refine RegW.take (i:=30) (v:=undef) rfl (by kernel_rfl) (by kernel_rfl) (by kernel_rfl) (by kernel_rfl) (fun _ _ _ h => h) (Or.inr ⟨by kernel_rfl,rfl⟩) (by assumption) ?_
 try simp only [Act.put]
 refine RegW.take (i:=31) (v:=?_) rfl (by kernel_rfl) (by kernel_rfl) (by kernel_rfl) (by kernel_rfl) (fun _ _ _ h => h) (Or.inl ⟨by kernel_rfl, ?_⟩) (by assumption) ?_
 rotate_left
 · intro w hSw
   go_split_ands
   go_simp
   try with_reducible rfl
 try simp only [Act.put]
 refine RegW.last rfl (by kernel_rfl) (by kernel_rfl) ?_
 clear hHeld
 go_wp2_with fail
 go_ret
 exact ⟨rfl,HS.out.step HB.out⟩
set_option maxHeartbeats 8000000 in
theorem proper_4 (N:List Nd) (x0:Nd) (hx0:N[0]? = some x0) (N0 N1 N2:List Nd) (y0 y1 y2:Nd) (hy0:N0[0]? = some y0) (hy1:N1[0]? = some y1) (hy2:N2[0]? = some y2) (c1:∀ w v,TreeS w v N -> Calls Tryz.prog 49 #[v] w fun e w' => ∃ v',e = .returned v' /\ TreesS w' v' [N0,N1,N2] /\ Since w w') (c3:Mak 41 #[.int .i64 1] (.string ⟨#[1]⟩)) (hq:true = tagsB x0.c x0.t 0 [16]) (q1:true = tagsB y0.c y0.t 0 [2]) (t1:(y0.d.toList == [1]) = true) (q2:true = tagsB y1.c y1.t 0 [4]) (q3:false = tagsB y2.c y2.t 2 [0]):RdT 23 N (fun v => #[v]) (.bool false):=by
 have Q1:=lH q1
 have Q2:=lH q2
 have Q3:=lH q3
 clear q1 q2 q3
 intro w v hv
 have HT:=lH hv
 have HS:=lH (Since.refl w)
 obtain ⟨A0,q0,rfl,-,-⟩:=hv.slice
 obtain ⟨n0,hn0⟩:∃ n,n = N.length:=⟨_,rfl⟩
 rw [<- hn0] at HT ⊢
 have HQ:=lH hq
 clear hv hn0 hq
 go_enter Tryz.func23,Tryz.ntmps23
 go_wp2_with fail
 refine (c1 _ _ HT.out).mono ?_
 rintro _ w1 ⟨v1,rfl,t1,h1⟩
 replace HS:=lH (HS.out.step h1)
 replace HT:=lH (HT.out.since h1)
 obtain ⟨bp,op,cp,e1,lp,hp⟩:=t1.form (by show 0 < 3; omega)
 replace e1:v1 = .slice (some ⟨bp,op,none⟩) 3 cp:=e1
 subst e1
 have HP:=lH hp
 clear t1 h1 hp
 go_wp2_with fail
 have hb:=(Since.refl w1).alloc (.cells #[.int .i64 16] 3)
 refine (is_rd _ _ 0 [16] (by decide) true HQ.out _ _ _ ((fst_tree HT.out hx0).since hb) (tags_lit w1 16)).mono ?_
 rintro _ w2 ⟨rfl,h2⟩
 have h3:=hb.step h2
 obtain ⟨z0,m0,T0⟩:=HP.out 0 N0 rfl
 obtain ⟨z1,m1,T1⟩:=HP.out 1 N1 rfl
 obtain ⟨z2,m2,T2⟩:=HP.out 2 N2 rfl
 replace m0:=(Below.cell h3 (p:=⟨bp,op + 0,none⟩) lp).trans m0
 replace m1:=(Below.cell h3 (p:=⟨bp,op + 1,none⟩) lp).trans m1
 replace m2:=(Below.cell h3 (p:=⟨bp,op + 2,none⟩) lp).trans m2
 rw [Nat.add_zero] at m0
 replace T0:=lH (T0.since h3)
 replace T1:=lH (T1.since h3)
 replace T2:=lH (T2.since h3)
 replace HS:=lH (HS.out.step h3)
 obtain ⟨b0,o0,d0,f0,-,-,l0,g0⟩:=T0.out.form (List.getElem?_eq_some_iff.1 hy0).1
 obtain ⟨k0,-,-,-,g4,-⟩:=g0 0 y0 hy0
 have HPF:=lH (show PF w2 b0 o0 y0.d from ⟨l0,by rw [Nat.zero_mul] at g4; exact g4⟩)
 have F0:=lH (fst_tree T0.out hy0)
 have F1:=lH (fst_tree T1.out hy1)
 have F2:=lH (fst_tree T2.out hy2)
 obtain ⟨p0,hp0⟩:∃ n,n = N0.length:=⟨_,rfl⟩
 have x0:(0:Int) < (p0:Int):=by have:=(List.getElem?_eq_some_iff.1 hy0).1; omega
 have x00:0 < p0:=by omega
 rw [<- hp0] at f0
 subst f0
 obtain ⟨A1,d1,e1,-,-⟩:=T1.out.slice
 obtain ⟨p1,hp1⟩:∃ n,n = N1.length:=⟨_,rfl⟩
 rw [<- hp1] at e1
 subst e1
 obtain ⟨A2,d2,e2,-,-⟩:=T2.out.slice
 obtain ⟨p2,hp2⟩:∃ n,n = N2.length:=⟨_,rfl⟩
 rw [<- hp2] at e2
 subst e2
 have HP2:=lH hp2
 clear hb h2 h3 HP HT HQ g0 g4 l0 lp hp0 hp1 hp2
 go_wp2_with fail
 go_quiet (fail)
 have HB:Hid (Since w2 (w2.drewN nq)):=lH (Att.belowN w2 nq)
 go_wp2_with fail
 refine RegW.start (fun W' => Hid (Since w2 W') /\ W'.cell? ⟨b0,o0 + 3,none⟩ = some (.string y0.d)) 32 (by kernel_rfl) ⟨lH (HB.out.step (drew_since _)),HPF.out.at_ (HB.out.step (drew_since _))⟩ (fun hHeld => ?_)
 replace HB:=lH (HB.out.step (drew_since _))
 clear m0 m1 m2
 refine RegW.take (i:=0) (v:=?_) rfl (by kernel_rfl) (by kernel_rfl) (by kernel_rfl) (by kernel_rfl) (fun _ _ _ h => h) (Or.inl ⟨by kernel_rfl, ?_⟩) (by assumption) ?_
 rotate_left
 · intro w hSw
   go_split_ands
   go_simp
   try with_reducible rfl
 try simp only [Act.put,List.setIfInBounds_toArray]
 refine RegW.only (i:=1) rfl (by kernel_rfl) (fun K hK => ?_)
 go_simp
 refine hK.out _ _ ⟨lH (HB.out.alloc (.cells #[.int .i64 2] 3)),HPF.out.at_ (HB.out.alloc _)⟩ (fun hHeld => ?_)
 replace HB:=lH (HB.out.alloc (.cells #[.int .i64 2] 3))
 clear hK K
 try simp only [Act.put,List.setIfInBounds_toArray,List.set_cons_zero,List.set_cons_succ]
 refine RegW.only (i:=2) rfl (by kernel_rfl) (fun K hK => ?_)
 go_simp
 go_at_call 50
 refine (is_rd _ _ 0 [2] (by show 0 < 1; omega) _ Q1.out _ _ _ (F0.out.since HB.out) (tags_lit _ 2)).mono ?_
 rintro _ w3 ⟨rfl,h3⟩
 replace HB:=lH (HB.out.step h3)
 clear h3
 refine hK.out _ _ ⟨HB,HPF.out.at_ HB.out⟩ (fun hHeld => ?_)
 clear hK K
 try simp only [Act.put,List.setIfInBounds_toArray,List.set_cons_zero,List.set_cons_succ]
 refine RegW.take (i:=3) (v:=?_) rfl (by kernel_rfl) (by kernel_rfl) (by kernel_rfl) (by kernel_rfl) (fun _ _ _ h => h) (Or.inl ⟨by kernel_rfl, ?_⟩) (by assumption) ?_
 rotate_left
 · intro w hSw
   go_split_ands
   go_simp
   try with_reducible rfl
 try simp only [Act.put,List.setIfInBounds_toArray]
 refine RegW.take (i:=4) (v:=?_) rfl (by kernel_rfl) (by kernel_rfl) (by kernel_rfl) (by kernel_rfl) (fun _ _ _ h => h) (Or.inl ⟨by kernel_rfl, ?_⟩) (by assumption) ?_
 rotate_left
 · intro w hSw
   go_split_ands
   go_simp
   try with_reducible rfl
 try simp only [Act.put]
 refine RegW.take (i:=5) (v:=?_) rfl (by kernel_rfl) (by kernel_rfl) (by kernel_rfl) (by kernel_rfl) (fun _ _ _ h => h) (Or.inl ⟨by kernel_rfl, ?_⟩) (by assumption) ?_
 rotate_left
 · intro w hSw
   go_split_ands
   go_simp
   try with_reducible rfl
 try simp only [Act.put]
 refine RegW.take (i:=6) (v:=?_) rfl (by kernel_rfl) (by kernel_rfl) (by kernel_rfl) (by kernel_rfl) (fun _ _ _ h => h) (Or.inl ⟨by kernel_rfl, ?_⟩) (by assumption) ?_
 rotate_left
 · intro w hSw
   go_split_ands
   go_simp
   try with_reducible rfl
 try simp only [Act.put]
 refine RegW.take (i:=7) (v:=?_) rfl (by kernel_rfl) (by kernel_rfl) (by kernel_rfl) (by kernel_rfl) (fun _ _ _ h => h) (Or.inl ⟨by kernel_rfl, ?_⟩) (by assumption) ?_
 rotate_left
 · intro w hSw
   go_split_ands
   go_simp
   try with_reducible rfl
 try simp only [Act.put]
 refine RegW.only (i:=8) rfl (by kernel_rfl) (fun K hK => ?_)
 go_simp
 go_at_call 41
 refine c3.calls0 ?_
 intro w4 h4
 replace HB:=lH (HB.out.step h4)
 clear h4
 refine hK.out _ _ ⟨HB,HPF.out.at_ HB.out⟩ (fun hHeld => ?_)
 clear hK K
 try simp only [Act.put,List.setIfInBounds_toArray,List.set_cons_zero,List.set_cons_succ]
 refine RegW.take (i:=9) (v:=?_) rfl (by kernel_rfl) (by kernel_rfl) (by kernel_rfl) (by kernel_rfl) (fun _ _ _ h => h) (Or.inl ⟨by kernel_rfl, ?_⟩) (by assumption) ?_
 rotate_left
 · intro w hSw
   go_split_ands
   go_simp
   try with_reducible rfl
 try simp only [Act.put,List.setIfInBounds_toArray]
 refine RegW.take (i:=10) (v:=?_) rfl (by kernel_rfl) (by kernel_rfl) (by kernel_rfl) (by kernel_rfl) (fun _ _ _ h => h) (Or.inl ⟨by kernel_rfl, ?_⟩) (by assumption) ?_
 rotate_left
 · intro w hSw
   go_split_ands
   go_simp
   try with_reducible rfl
 try simp only [Act.put]
 refine RegW.take (i:=11) (v:=?_) rfl (by kernel_rfl) (by kernel_rfl) (by kernel_rfl) (by kernel_rfl) (fun _ _ _ h => h) (Or.inl ⟨by kernel_rfl, ?_⟩) (by assumption) ?_
 rotate_left
 · intro w hSw
   go_split_ands
   go_simp
   try with_reducible rfl
 try simp only [Act.put]
 refine RegW.take (i:=12) (v:=?_) rfl (by kernel_rfl) (by kernel_rfl) (by kernel_rfl) (by kernel_rfl) (fun _ _ _ h => h) (Or.inl ⟨by kernel_rfl, ?_⟩) (by assumption) ?_
 rotate_left
 · intro w hSw
   go_split_ands
   go_simp
   try with_reducible rfl
 try simp only [Act.put]
 refine RegW.only (i:=13) rfl (by kernel_rfl) (fun K hK => ?_)
 go_simp
 refine hK.out _ _ ⟨lH (HB.out.alloc (.cells #[.int .i64 4] 3)),HPF.out.at_ (HB.out.alloc _)⟩ (fun hHeld => ?_)
 replace HB:=lH (HB.out.alloc (.cells #[.int .i64 4] 3))
 clear hK K
 try simp only [Act.put,List.setIfInBounds_toArray,List.set_cons_zero,List.set_cons_succ]
 refine RegW.only (i:=14) rfl (by kernel_rfl) (fun K hK => ?_)
 go_simp
 go_at_call 50
 refine (is_rd _ _ 0 [4] (by show 0 < 1; omega) _ Q2.out _ _ _ (F1.out.since HB.out) (tags_lit _ 4)).mono ?_
 rintro _ w5 ⟨rfl,h5⟩
 replace HB:=lH (HB.out.step h5)
 clear h5
 refine hK.out _ _ ⟨HB,HPF.out.at_ HB.out⟩ (fun hHeld => ?_)
 clear hK K
 try simp only [Act.put,List.setIfInBounds_toArray,List.set_cons_zero,List.set_cons_succ]
 refine RegW.take (i:=15) (v:=?_) rfl (by kernel_rfl) (by kernel_rfl) (by kernel_rfl) (by kernel_rfl) (fun _ _ _ h => h) (Or.inl ⟨by kernel_rfl, ?_⟩) (by assumption) ?_
 rotate_left
 · intro w hSw
   go_split_ands
   go_simp
   try with_reducible rfl
 try simp only [Act.put,List.setIfInBounds_toArray]
 refine RegW.take (i:=16) (v:=?_) rfl (by kernel_rfl) (by kernel_rfl) (by kernel_rfl) (by kernel_rfl) (fun _ _ _ h => h) (Or.inl ⟨by kernel_rfl, ?_⟩) (by assumption) ?_
 rotate_left
 · intro w hSw
   go_split_ands
   go_simp
   try with_reducible rfl
 try simp only [Act.put]
 refine RegW.take (i:=17) (v:=?_) rfl (by kernel_rfl) (by kernel_rfl) (by kernel_rfl) (by kernel_rfl) (fun _ _ _ h => h) (Or.inl ⟨by kernel_rfl, ?_⟩) (by assumption) ?_
 rotate_left
 · intro w hSw
   go_split_ands
   go_simp
   try with_reducible rfl
 try simp only [Act.put]
 refine RegW.only (i:=18) rfl (by kernel_rfl) (fun K hK => ?_)
 go_simp
 refine hK.out _ _ ⟨lH (HB.out.alloc (.cells #[.int .i64 0] 3)),HPF.out.at_ (HB.out.alloc _)⟩ (fun hHeld => ?_)
 replace HB:=lH (HB.out.alloc (.cells #[.int .i64 0] 3))
 clear hK K
 try simp only [Act.put,List.setIfInBounds_toArray,List.set_cons_zero,List.set_cons_succ]
 refine RegW.only (i:=19) rfl (by kernel_rfl) (fun K hK => ?_)
 go_simp
 go_at_call 50
 refine (is_rd _ _ 2 [0] (by show 0 < 1; omega) _ Q3.out _ _ _ (F2.out.since HB.out) (tags_lit _ 0)).mono ?_
 rintro _ w6 ⟨rfl,h6⟩
 replace HB:=lH (HB.out.step h6)
 clear h6
 refine hK.out _ _ ⟨HB,HPF.out.at_ HB.out⟩ (fun hHeld => ?_)
 clear hK K
 try simp only [Act.put,List.setIfInBounds_toArray,List.set_cons_zero,List.set_cons_succ]
 refine RegW.take (i:=20) (v:=?_) rfl (by kernel_rfl) (by kernel_rfl) (by kernel_rfl) (by kernel_rfl) (fun _ _ _ h => h) (Or.inl ⟨by kernel_rfl, ?_⟩) (by assumption) ?_
 rotate_left
 · intro w hSw
   go_split_ands
   go_simp
   try with_reducible rfl
 try simp only [Act.put,List.setIfInBounds_toArray]
 refine RegW.take (i:=21) (v:=?_) rfl (by kernel_rfl) (by kernel_rfl) (by kernel_rfl) (by kernel_rfl) (fun _ _ _ h => h) (Or.inl ⟨by kernel_rfl, ?_⟩) (by assumption) ?_
 rotate_left
 · intro w hSw
   go_split_ands
   go_simp
   try with_reducible rfl
 try simp only [Act.put]
 refine RegW.take (i:=22) (v:=undef) rfl (by kernel_rfl) (by kernel_rfl) (by kernel_rfl) (by kernel_rfl) (fun _ _ _ h => h) (Or.inr ⟨by kernel_rfl,rfl⟩) (by assumption) ?_
 try simp only [Act.put]
 refine RegW.take (i:=23) (v:=undef) rfl (by kernel_rfl) (by kernel_rfl) (by kernel_rfl) (by kernel_rfl) (fun _ _ _ h => h) (Or.inr ⟨by kernel_rfl,rfl⟩) (by assumption) ?_
 try simp only [Act.put]
 refine RegW.take (i:=24) (v:=undef) rfl (by kernel_rfl) (by kernel_rfl) (by kernel_rfl) (by kernel_rfl) (fun _ _ _ h => h) (Or.inr ⟨by kernel_rfl,rfl⟩) (by assumption) ?_
 try simp only [Act.put]
 refine RegW.take (i:=25) (v:=?_) rfl (by kernel_rfl) (by kernel_rfl) (by kernel_rfl) (by kernel_rfl) (fun _ _ _ h => h) (Or.inl ⟨by kernel_rfl, ?_⟩) (by assumption) ?_
 rotate_left
 · intro w hSw
   go_split_ands
   go_simp
   try with_reducible rfl
 try simp only [Act.put]
 refine RegW.take (i:=26) (v:=?_) rfl (by kernel_rfl) (by kernel_rfl) (by kernel_rfl) (by kernel_rfl) (fun _ _ _ h => h) (Or.inl ⟨by kernel_rfl, ?_⟩) (by assumption) ?_
 rotate_left
 · intro w hSw
   go_split_ands
   go_simp
   try with_reducible rfl
 try simp only [Act.put]
 refine RegW.take (i:=27) (v:=undef) rfl (by kernel_rfl) (by kernel_rfl) (by kernel_rfl) (by kernel_rfl) (fun _ _ _ h => h) (Or.inr ⟨by kernel_rfl,rfl⟩) (by assumption) ?_
 try simp only [Act.put]
 refine RegW.take (i:=28) (v:=undef) rfl (by kernel_rfl) (by kernel_rfl) (by kernel_rfl) (by kernel_rfl) (fun _ _ _ h => h) (Or.inr ⟨by kernel_rfl,rfl⟩) (by assumption) ?_
 try simp only [Act.put]
 refine RegW.take (i:=29) (v:=undef) rfl (by kernel_rfl) (by kernel_rfl) (by kernel_rfl) (by kernel_rfl) (fun _ _ _ h => h) (Or.inr ⟨by kernel_rfl,rfl⟩) (by assumption) ?_
 try simp only [Act.put]
 refine RegW.take (i:=30) (v:=undef) rfl (by kernel_rfl) (by kernel_rfl) (by kernel_rfl) (by kernel_rfl) (fun _ _ _ h => h) (Or.inr ⟨by kernel_rfl,rfl⟩) (by assumption) ?_
 try simp only [Act.put]
 refine RegW.take (i:=31) (v:=?_) rfl (by kernel_rfl) (by kernel_rfl) (by kernel_rfl) (by kernel_rfl) (fun _ _ _ h => h) (Or.inl ⟨by kernel_rfl, ?_⟩) (by assumption) ?_
 rotate_left
 · intro w hSw
   go_split_ands
   go_simp
   try with_reducible rfl
 try simp only [Act.put]
 refine RegW.last rfl (by kernel_rfl) (by kernel_rfl) ?_
 clear hHeld
 go_wp2_with fail
 go_ret
 exact ⟨rfl,HS.out.step HB.out⟩
set_option maxHeartbeats 8000000 in
theorem proper_5 (N:List Nd) (x0:Nd) (hx0:N[0]? = some x0) (N0 N1 N2:List Nd) (y0 y1 y2:Nd) (hy0:N0[0]? = some y0) (hy1:N1[0]? = some y1) (hy2:N2[0]? = some y2) (c1:∀ w v,TreeS w v N -> Calls Tryz.prog 49 #[v] w fun e w' => ∃ v',e = .returned v' /\ TreesS w' v' [N0,N1,N2] /\ Since w w') (c3:Mak 41 #[.int .i64 1] (.string ⟨#[1]⟩)) (hq:true = tagsB x0.c x0.t 0 [16]) (q1:true = tagsB y0.c y0.t 0 [2]) (t1:(y0.d.toList == [1]) = true) (q2:true = tagsB y1.c y1.t 0 [4]) (q3:true = tagsB y2.c y2.t 2 [0]) (h5:N2.length ≠ 2):RdT 23 N (fun v => #[v]) (.bool false):=by
 have Q1:=lH q1
 have Q2:=lH q2
 have Q3:=lH q3
 have H5:=lH h5
 clear q1 q2 q3 h5
 intro w v hv
 have HT:=lH hv
 have HS:=lH (Since.refl w)
 obtain ⟨A0,q0,rfl,-,-⟩:=hv.slice
 obtain ⟨n0,hn0⟩:∃ n,n = N.length:=⟨_,rfl⟩
 rw [<- hn0] at HT ⊢
 have HQ:=lH hq
 clear hv hn0 hq
 go_enter Tryz.func23,Tryz.ntmps23
 go_wp2_with fail
 refine (c1 _ _ HT.out).mono ?_
 rintro _ w1 ⟨v1,rfl,t1,h1⟩
 replace HS:=lH (HS.out.step h1)
 replace HT:=lH (HT.out.since h1)
 obtain ⟨bp,op,cp,e1,lp,hp⟩:=t1.form (by show 0 < 3; omega)
 replace e1:v1 = .slice (some ⟨bp,op,none⟩) 3 cp:=e1
 subst e1
 have HP:=lH hp
 clear t1 h1 hp
 go_wp2_with fail
 have hb:=(Since.refl w1).alloc (.cells #[.int .i64 16] 3)
 refine (is_rd _ _ 0 [16] (by decide) true HQ.out _ _ _ ((fst_tree HT.out hx0).since hb) (tags_lit w1 16)).mono ?_
 rintro _ w2 ⟨rfl,h2⟩
 have h3:=hb.step h2
 obtain ⟨z0,m0,T0⟩:=HP.out 0 N0 rfl
 obtain ⟨z1,m1,T1⟩:=HP.out 1 N1 rfl
 obtain ⟨z2,m2,T2⟩:=HP.out 2 N2 rfl
 replace m0:=(Below.cell h3 (p:=⟨bp,op + 0,none⟩) lp).trans m0
 replace m1:=(Below.cell h3 (p:=⟨bp,op + 1,none⟩) lp).trans m1
 replace m2:=(Below.cell h3 (p:=⟨bp,op + 2,none⟩) lp).trans m2
 rw [Nat.add_zero] at m0
 replace T0:=lH (T0.since h3)
 replace T1:=lH (T1.since h3)
 replace T2:=lH (T2.since h3)
 replace HS:=lH (HS.out.step h3)
 obtain ⟨b0,o0,d0,f0,-,-,l0,g0⟩:=T0.out.form (List.getElem?_eq_some_iff.1 hy0).1
 obtain ⟨k0,-,-,-,g4,-⟩:=g0 0 y0 hy0
 have HPF:=lH (show PF w2 b0 o0 y0.d from ⟨l0,by rw [Nat.zero_mul] at g4; exact g4⟩)
 have F0:=lH (fst_tree T0.out hy0)
 have F1:=lH (fst_tree T1.out hy1)
 have F2:=lH (fst_tree T2.out hy2)
 obtain ⟨p0,hp0⟩:∃ n,n = N0.length:=⟨_,rfl⟩
 have x0:(0:Int) < (p0:Int):=by have:=(List.getElem?_eq_some_iff.1 hy0).1; omega
 have x00:0 < p0:=by omega
 rw [<- hp0] at f0
 subst f0
 obtain ⟨A1,d1,e1,-,-⟩:=T1.out.slice
 obtain ⟨p1,hp1⟩:∃ n,n = N1.length:=⟨_,rfl⟩
 rw [<- hp1] at e1
 subst e1
 obtain ⟨A2,d2,e2,-,-⟩:=T2.out.slice
 obtain ⟨p2,hp2⟩:∃ n,n = N2.length:=⟨_,rfl⟩
 rw [<- hp2] at e2
 subst e2
 have HP2:=lH hp2
 clear hb h2 h3 HP HT HQ g0 g4 l0 lp hp0 hp1 hp2
 go_wp2_with fail
 have t2:((p2:Int) == 2) = false:=beq_eq_false_iff_ne.2 (by have h6:=HP2.out; have h7:=H5.out; omega)
 go_quiet (fail)
 have HB:Hid (Since w2 (w2.drewN nq)):=lH (Att.belowN w2 nq)
 go_wp2_with fail
 refine RegW.start (fun W' => Hid (Since w2 W') /\ W'.cell? ⟨b0,o0 + 3,none⟩ = some (.string y0.d)) 32 (by kernel_rfl) ⟨lH (HB.out.step (drew_since _)),HPF.out.at_ (HB.out.step (drew_since _))⟩ (fun hHeld => ?_)
 replace HB:=lH (HB.out.step (drew_since _))
 clear m0 m1 m2
 refine RegW.take (i:=0) (v:=?_) rfl (by kernel_rfl) (by kernel_rfl) (by kernel_rfl) (by kernel_rfl) (fun _ _ _ h => h) (Or.inl ⟨by kernel_rfl, ?_⟩) (by assumption) ?_
 rotate_left
 · intro w hSw
   go_split_ands
   go_simp
   try with_reducible rfl
 try simp only [Act.put,List.setIfInBounds_toArray]
 refine RegW.only (i:=1) rfl (by kernel_rfl) (fun K hK => ?_)
 go_simp
 refine hK.out _ _ ⟨lH (HB.out.alloc (.cells #[.int .i64 2] 3)),HPF.out.at_ (HB.out.alloc _)⟩ (fun hHeld => ?_)
 replace HB:=lH (HB.out.alloc (.cells #[.int .i64 2] 3))
 clear hK K
 try simp only [Act.put,List.setIfInBounds_toArray,List.set_cons_zero,List.set_cons_succ]
 refine RegW.only (i:=2) rfl (by kernel_rfl) (fun K hK => ?_)
 go_simp
 go_at_call 50
 refine (is_rd _ _ 0 [2] (by show 0 < 1; omega) _ Q1.out _ _ _ (F0.out.since HB.out) (tags_lit _ 2)).mono ?_
 rintro _ w3 ⟨rfl,h3⟩
 replace HB:=lH (HB.out.step h3)
 clear h3
 refine hK.out _ _ ⟨HB,HPF.out.at_ HB.out⟩ (fun hHeld => ?_)
 clear hK K
 try simp only [Act.put,List.setIfInBounds_toArray,List.set_cons_zero,List.set_cons_succ]
 refine RegW.take (i:=3) (v:=?_) rfl (by kernel_rfl) (by kernel_rfl) (by kernel_rfl) (by kernel_rfl) (fun _ _ _ h => h) (Or.inl ⟨by kernel_rfl, ?_⟩) (by assumption) ?_
 rotate_left
 · intro w hSw
   go_split_ands
   go_simp
   try with_reducible rfl
 try simp only [Act.put,List.setIfInBounds_toArray]
 refine RegW.take (i:=4) (v:=?_) rfl (by kernel_rfl) (by kernel_rfl) (by kernel_rfl) (by kernel_rfl) (fun _ _ _ h => h) (Or.inl ⟨by kernel_rfl, ?_⟩) (by assumption) ?_
 rotate_left
 · intro w hSw
   go_split_ands
   go_simp
   try with_reducible rfl
 try simp only [Act.put]
 refine RegW.take (i:=5) (v:=?_) rfl (by kernel_rfl) (by kernel_rfl) (by kernel_rfl) (by kernel_rfl) (fun _ _ _ h => h) (Or.inl ⟨by kernel_rfl, ?_⟩) (by assumption) ?_
 rotate_left
 · intro w hSw
   go_split_ands
   go_simp
   try with_reducible rfl
 try simp only [Act.put]
 refine RegW.take (i:=6) (v:=?_) rfl (by kernel_rfl) (by kernel_rfl) (by kernel_rfl) (by kernel_rfl) (fun _ _ _ h => h) (Or.inl ⟨by kernel_rfl, ?_⟩) (by assumption) ?_
 rotate_left
 · intro w hSw
   go_split_ands
   go_simp
   try with_reducible rfl
 try simp only [Act.put]
 refine RegW.take (i:=7) (v:=?_) rfl (by kernel_rfl) (by kernel_rfl) (by kernel_rfl) (by kernel_rfl) (fun _ _ _ h => h) (Or.inl ⟨by kernel_rfl, ?_⟩) (by assumption) ?_
 rotate_left
 · intro w hSw
   go_split_ands
   go_simp
   try with_reducible rfl
 try simp only [Act.put]
 refine RegW.only (i:=8) rfl (by kernel_rfl) (fun K hK => ?_)
 go_simp
 go_at_call 41
 refine c3.calls0 ?_
 intro w4 h4
 replace HB:=lH (HB.out.step h4)
 clear h4
 refine hK.out _ _ ⟨HB,HPF.out.at_ HB.out⟩ (fun hHeld => ?_)
 clear hK K
 try simp only [Act.put,List.setIfInBounds_toArray,List.set_cons_zero,List.set_cons_succ]
 refine RegW.take (i:=9) (v:=?_) rfl (by kernel_rfl) (by kernel_rfl) (by kernel_rfl) (by kernel_rfl) (fun _ _ _ h => h) (Or.inl ⟨by kernel_rfl, ?_⟩) (by assumption) ?_
 rotate_left
 · intro w hSw
   go_split_ands
   go_simp
   try with_reducible rfl
 try simp only [Act.put,List.setIfInBounds_toArray]
 refine RegW.take (i:=10) (v:=?_) rfl (by kernel_rfl) (by kernel_rfl) (by kernel_rfl) (by kernel_rfl) (fun _ _ _ h => h) (Or.inl ⟨by kernel_rfl, ?_⟩) (by assumption) ?_
 rotate_left
 · intro w hSw
   go_split_ands
   go_simp
   try with_reducible rfl
 try simp only [Act.put]
 refine RegW.take (i:=11) (v:=?_) rfl (by kernel_rfl) (by kernel_rfl) (by kernel_rfl) (by kernel_rfl) (fun _ _ _ h => h) (Or.inl ⟨by kernel_rfl, ?_⟩) (by assumption) ?_
 rotate_left
 · intro w hSw
   go_split_ands
   go_simp
   try with_reducible rfl
 try simp only [Act.put]
 refine RegW.take (i:=12) (v:=?_) rfl (by kernel_rfl) (by kernel_rfl) (by kernel_rfl) (by kernel_rfl) (fun _ _ _ h => h) (Or.inl ⟨by kernel_rfl, ?_⟩) (by assumption) ?_
 rotate_left
 · intro w hSw
   go_split_ands
   go_simp
   try with_reducible rfl
 try simp only [Act.put]
 refine RegW.only (i:=13) rfl (by kernel_rfl) (fun K hK => ?_)
 go_simp
 refine hK.out _ _ ⟨lH (HB.out.alloc (.cells #[.int .i64 4] 3)),HPF.out.at_ (HB.out.alloc _)⟩ (fun hHeld => ?_)
 replace HB:=lH (HB.out.alloc (.cells #[.int .i64 4] 3))
 clear hK K
 try simp only [Act.put,List.setIfInBounds_toArray,List.set_cons_zero,List.set_cons_succ]
 refine RegW.only (i:=14) rfl (by kernel_rfl) (fun K hK => ?_)
 go_simp
 go_at_call 50
 refine (is_rd _ _ 0 [4] (by show 0 < 1; omega) _ Q2.out _ _ _ (F1.out.since HB.out) (tags_lit _ 4)).mono ?_
 rintro _ w5 ⟨rfl,h5⟩
 replace HB:=lH (HB.out.step h5)
 clear h5
 refine hK.out _ _ ⟨HB,HPF.out.at_ HB.out⟩ (fun hHeld => ?_)
 clear hK K
 try simp only [Act.put,List.setIfInBounds_toArray,List.set_cons_zero,List.set_cons_succ]
 refine RegW.take (i:=15) (v:=?_) rfl (by kernel_rfl) (by kernel_rfl) (by kernel_rfl) (by kernel_rfl) (fun _ _ _ h => h) (Or.inl ⟨by kernel_rfl, ?_⟩) (by assumption) ?_
 rotate_left
 · intro w hSw
   go_split_ands
   go_simp
   try with_reducible rfl
 try simp only [Act.put,List.setIfInBounds_toArray]
 refine RegW.take (i:=16) (v:=?_) rfl (by kernel_rfl) (by kernel_rfl) (by kernel_rfl) (by kernel_rfl) (fun _ _ _ h => h) (Or.inl ⟨by kernel_rfl, ?_⟩) (by assumption) ?_
 rotate_left
 · intro w hSw
   go_split_ands
   go_simp
   try with_reducible rfl
 try simp only [Act.put]
 refine RegW.take (i:=17) (v:=?_) rfl (by kernel_rfl) (by kernel_rfl) (by kernel_rfl) (by kernel_rfl) (fun _ _ _ h => h) (Or.inl ⟨by kernel_rfl, ?_⟩) (by assumption) ?_
 rotate_left
 · intro w hSw
   go_split_ands
   go_simp
   try with_reducible rfl
 try simp only [Act.put]
 refine RegW.only (i:=18) rfl (by kernel_rfl) (fun K hK => ?_)
 go_simp
 refine hK.out _ _ ⟨lH (HB.out.alloc (.cells #[.int .i64 0] 3)),HPF.out.at_ (HB.out.alloc _)⟩ (fun hHeld => ?_)
 replace HB:=lH (HB.out.alloc (.cells #[.int .i64 0] 3))
 clear hK K
 try simp only [Act.put,List.setIfInBounds_toArray,List.set_cons_zero,List.set_cons_succ]
 refine RegW.only (i:=19) rfl (by kernel_rfl) (fun K hK => ?_)
 go_simp
 go_at_call 50
 refine (is_rd _ _ 2 [0] (by show 0 < 1; omega) _ Q3.out _ _ _ (F2.out.since HB.out) (tags_lit _ 0)).mono ?_
 rintro _ w6 ⟨rfl,h6⟩
 replace HB:=lH (HB.out.step h6)
 clear h6
 refine hK.out _ _ ⟨HB,HPF.out.at_ HB.out⟩ (fun hHeld => ?_)
 clear hK K
 try simp only [Act.put,List.setIfInBounds_toArray,List.set_cons_zero,List.set_cons_succ]
 refine RegW.take (i:=20) (v:=?_) rfl (by kernel_rfl) (by kernel_rfl) (by kernel_rfl) (by kernel_rfl) (fun _ _ _ h => h) (Or.inl ⟨by kernel_rfl, ?_⟩) (by assumption) ?_
 rotate_left
 · intro w hSw
   go_split_ands
   go_simp
   try with_reducible rfl
 try simp only [Act.put,List.setIfInBounds_toArray]
 refine RegW.take (i:=21) (v:=?_) rfl (by kernel_rfl) (by kernel_rfl) (by kernel_rfl) (by kernel_rfl) (fun _ _ _ h => h) (Or.inl ⟨by kernel_rfl, ?_⟩) (by assumption) ?_
 rotate_left
 · intro w hSw
   go_split_ands
   go_simp
   try with_reducible rfl
 try simp only [Act.put]
 refine RegW.take (i:=22) (v:=?_) rfl (by kernel_rfl) (by kernel_rfl) (by kernel_rfl) (by kernel_rfl) (fun _ _ _ h => h) (Or.inl ⟨by kernel_rfl, ?_⟩) (by assumption) ?_
 rotate_left
 · intro w hSw
   go_split_ands
   go_simp
   try with_reducible rfl
 try simp only [Act.put]
 refine RegW.take (i:=23) (v:=?_) rfl (by kernel_rfl) (by kernel_rfl) (by kernel_rfl) (by kernel_rfl) (fun _ _ _ h => h) (Or.inl ⟨by kernel_rfl, ?_⟩) (by assumption) ?_
 rotate_left
 · intro w hSw
   go_split_ands
   go_simp
   try with_reducible rfl
 try simp only [Act.put]
 refine RegW.take (i:=24) (v:=?_) rfl (by kernel_rfl) (by kernel_rfl) (by kernel_rfl) (by kernel_rfl) (fun _ _ _ h => h) (Or.inl ⟨by kernel_rfl, ?_⟩) (by assumption) ?_
 rotate_left
 · intro w hSw
   go_split_ands
   go_simp
   try with_reducible rfl
 try simp only [Act.put]
 refine RegW.take (i:=25) (v:=?_) rfl (by kernel_rfl) (by kernel_rfl) (by kernel_rfl) (by kernel_rfl) (fun _ _ _ h => h) (Or.inl ⟨by kernel_rfl, ?_⟩) (by assumption) ?_
 rotate_left
 · intro w hSw
   go_split_ands
   go_simp
   try with_reducible rfl
 try simp only [Act.put]
 refine RegW.take (i:=26) (v:=?_) rfl (by kernel_rfl) (by kernel_rfl) (by kernel_rfl) (by kernel_rfl) (fun _ _ _ h => h) (Or.inl ⟨by kernel_rfl, ?_⟩) (by assumption) ?_
 rotate_left
 · intro w hSw
   go_split_ands
   go_simp
   try with_reducible rfl
 try simp only [Act.put]
 refine RegW.take (i:=27) (v:=undef) rfl (by kernel_rfl) (by kernel_rfl) (by kernel_rfl) (by kernel_rfl) (fun _ _ _ h => h) (Or.inr ⟨by kernel_rfl,rfl⟩) (by assumption) ?_
 try simp only [Act.put]
 refine RegW.take (i:=28) (v:=undef) rfl (by kernel_rfl) (by kernel_rfl) (by kernel_rfl) (by kernel_rfl) (fun _ _ _ h => h) (Or.inr ⟨by kernel_rfl,rfl⟩) (by assumption) ?_
 try simp only [Act.put]
 refine RegW.take (i:=29) (v:=undef) rfl (by kernel_rfl) (by kernel_rfl) (by kernel_rfl) (by kernel_rfl) (fun _ _ _ h => h) (Or.inr ⟨by kernel_rfl,rfl⟩) (by assumption) ?_
 try simp only [Act.put]
 refine RegW.take (i:=30) (v:=undef) rfl (by kernel_rfl) (by kernel_rfl) (by kernel_rfl) (by kernel_rfl) (fun _ _ _ h => h) (Or.inr ⟨by kernel_rfl,rfl⟩) (by assumption) ?_
 try simp only [Act.put]
 refine RegW.take (i:=31) (v:=?_) rfl (by kernel_rfl) (by kernel_rfl) (by kernel_rfl) (by kernel_rfl) (fun _ _ _ h => h) (Or.inl ⟨by kernel_rfl, ?_⟩) (by assumption) ?_
 rotate_left
 · intro w hSw
   go_split_ands
   go_simp
   try with_reducible rfl
 try simp only [Act.put]
 refine RegW.last rfl (by kernel_rfl) (by kernel_rfl) ?_
 clear hHeld
 go_wp2_with fail
 go_ret
 exact ⟨rfl,HS.out.step HB.out⟩
set_option maxHeartbeats 8000000 in
theorem proper_6 (N:List Nd) (x0:Nd) (hx0:N[0]? = some x0) (N0 N1 N2:List Nd) (y0 y1 y2:Nd) (hy0:N0[0]? = some y0) (hy1:N1[0]? = some y1) (hy2:N2[0]? = some y2) (c1:∀ w v,TreeS w v N -> Calls Tryz.prog 49 #[v] w fun e w' => ∃ v',e = .returned v' /\ TreesS w' v' [N0,N1,N2] /\ Since w w') (c3:Mak 41 #[.int .i64 1] (.string ⟨#[1]⟩)) (hq:true = tagsB x0.c x0.t 0 [16]) (q1:true = tagsB y0.c y0.t 0 [2]) (t1:(y0.d.toList == [1]) = true) (q2:true = tagsB y1.c y1.t 0 [4]) (q3:true = tagsB y2.c y2.t 2 [0]) (h5:N2.length = 2) (y3:Nd) (hy3:N2[1]? = some y3) (q6:Bool) (qq:q6 = tagsB y3.c y3.t 0 [6]):RdT 23 N (fun v => #[v]) (.bool q6):=by
 have Q1:=lH q1
 have Q2:=lH q2
 have Q3:=lH q3
 have H5:=lH h5
 have QQ:=lH qq
 clear q1 q2 q3 h5 qq
 intro w v hv
 have HT:=lH hv
 have HS:=lH (Since.refl w)
 obtain ⟨A0,q0,rfl,-,-⟩:=hv.slice
 obtain ⟨n0,hn0⟩:∃ n,n = N.length:=⟨_,rfl⟩
 rw [<- hn0] at HT ⊢
 have HQ:=lH hq
 clear hv hn0 hq
 go_enter Tryz.func23,Tryz.ntmps23
 go_wp2_with fail
 refine (c1 _ _ HT.out).mono ?_
 rintro _ w1 ⟨v1,rfl,t1,h1⟩
 replace HS:=lH (HS.out.step h1)
 replace HT:=lH (HT.out.since h1)
 obtain ⟨bp,op,cp,e1,lp,hp⟩:=t1.form (by show 0 < 3; omega)
 replace e1:v1 = .slice (some ⟨bp,op,none⟩) 3 cp:=e1
 subst e1
 have HP:=lH hp
 clear t1 h1 hp
 go_wp2_with fail
 have hb:=(Since.refl w1).alloc (.cells #[.int .i64 16] 3)
 refine (is_rd _ _ 0 [16] (by decide) true HQ.out _ _ _ ((fst_tree HT.out hx0).since hb) (tags_lit w1 16)).mono ?_
 rintro _ w2 ⟨rfl,h2⟩
 have h3:=hb.step h2
 obtain ⟨z0,m0,T0⟩:=HP.out 0 N0 rfl
 obtain ⟨z1,m1,T1⟩:=HP.out 1 N1 rfl
 obtain ⟨z2,m2,T2⟩:=HP.out 2 N2 rfl
 replace m0:=(Below.cell h3 (p:=⟨bp,op + 0,none⟩) lp).trans m0
 replace m1:=(Below.cell h3 (p:=⟨bp,op + 1,none⟩) lp).trans m1
 replace m2:=(Below.cell h3 (p:=⟨bp,op + 2,none⟩) lp).trans m2
 rw [Nat.add_zero] at m0
 replace T0:=lH (T0.since h3)
 replace T1:=lH (T1.since h3)
 replace T2:=lH (T2.since h3)
 replace HS:=lH (HS.out.step h3)
 obtain ⟨b0,o0,d0,f0,-,-,l0,g0⟩:=T0.out.form (List.getElem?_eq_some_iff.1 hy0).1
 obtain ⟨k0,-,-,-,g4,-⟩:=g0 0 y0 hy0
 have HPF:=lH (show PF w2 b0 o0 y0.d from ⟨l0,by rw [Nat.zero_mul] at g4; exact g4⟩)
 have F0:=lH (fst_tree T0.out hy0)
 have F1:=lH (fst_tree T1.out hy1)
 have F2:=lH (fst_tree T2.out hy2)
 obtain ⟨p0,hp0⟩:∃ n,n = N0.length:=⟨_,rfl⟩
 have x0:(0:Int) < (p0:Int):=by have:=(List.getElem?_eq_some_iff.1 hy0).1; omega
 have x00:0 < p0:=by omega
 rw [<- hp0] at f0
 subst f0
 obtain ⟨A1,d1,e1,-,-⟩:=T1.out.slice
 obtain ⟨p1,hp1⟩:∃ n,n = N1.length:=⟨_,rfl⟩
 rw [<- hp1] at e1
 subst e1
 obtain ⟨A2,d2,e2,-,-⟩:=T2.out.slice
 obtain ⟨p2,hp2⟩:∃ n,n = N2.length:=⟨_,rfl⟩
 rw [<- hp2] at e2
 subst e2
 have HP2:=lH hp2
 clear hb h2 h3 HP HT HQ g0 g4 l0 lp hp0 hp1 hp2
 go_wp2_with fail
 obtain rfl:p2 = 2:=by rw [HP2.out]; exact H5.out
 obtain ⟨b2,o2,d2',f2,-,-,-,-⟩:=T2.out.form (by rw [<- HP2.out]; omega)
 rw [<- HP2.out] at f2
 obtain ⟨rfl,-,-⟩:=Value.slice.inj f2
 obtain ⟨A',g1,g2⟩:=tail_slice T2.out HP2.out (by omega)
 have hsl:∀ W,(Instr.slice 33 (.slice (some ⟨b2,o2,none⟩) 2 d2) (some (.int .i64 1)) none none).run Tryz.prog W = .ok (.slice A' 1 (d2 - 1)) W:=g2
 have F3:=lH (show Fst w2 (.slice A' 1 (d2 - 1)) y3.c y3.t from fst_tree g1 (by rw [List.getElem?_drop]; exact hy3))
 clear f2 g1 g2
 go_quiet (fail)
 have HB:Hid (Since w2 (w2.drewN nq)):=lH (Att.belowN w2 nq)
 go_wp2_with fail
 refine RegW.start (fun W' => Hid (Since w2 W') /\ W'.cell? ⟨b0,o0 + 3,none⟩ = some (.string y0.d)) 32 (by kernel_rfl) ⟨lH (HB.out.step (drew_since _)),HPF.out.at_ (HB.out.step (drew_since _))⟩ (fun hHeld => ?_)
 replace HB:=lH (HB.out.step (drew_since _))
 clear m0 m1 m2
 refine RegW.take (i:=0) (v:=?_) rfl (by kernel_rfl) (by kernel_rfl) (by kernel_rfl) (by kernel_rfl) (fun _ _ _ h => h) (Or.inl ⟨by kernel_rfl, ?_⟩) (by assumption) ?_
 rotate_left
 · intro w hSw
   go_split_ands
   go_simp
   try with_reducible rfl
 try simp only [Act.put,List.setIfInBounds_toArray]
 refine RegW.only (i:=1) rfl (by kernel_rfl) (fun K hK => ?_)
 go_simp
 refine hK.out _ _ ⟨lH (HB.out.alloc (.cells #[.int .i64 2] 3)),HPF.out.at_ (HB.out.alloc _)⟩ (fun hHeld => ?_)
 replace HB:=lH (HB.out.alloc (.cells #[.int .i64 2] 3))
 clear hK K
 try simp only [Act.put,List.setIfInBounds_toArray,List.set_cons_zero,List.set_cons_succ]
 refine RegW.only (i:=2) rfl (by kernel_rfl) (fun K hK => ?_)
 go_simp
 go_at_call 50
 refine (is_rd _ _ 0 [2] (by show 0 < 1; omega) _ Q1.out _ _ _ (F0.out.since HB.out) (tags_lit _ 2)).mono ?_
 rintro _ w3 ⟨rfl,h3⟩
 replace HB:=lH (HB.out.step h3)
 clear h3
 refine hK.out _ _ ⟨HB,HPF.out.at_ HB.out⟩ (fun hHeld => ?_)
 clear hK K
 try simp only [Act.put,List.setIfInBounds_toArray,List.set_cons_zero,List.set_cons_succ]
 refine RegW.take (i:=3) (v:=?_) rfl (by kernel_rfl) (by kernel_rfl) (by kernel_rfl) (by kernel_rfl) (fun _ _ _ h => h) (Or.inl ⟨by kernel_rfl, ?_⟩) (by assumption) ?_
 rotate_left
 · intro w hSw
   go_split_ands
   go_simp
   try with_reducible rfl
 try simp only [Act.put,List.setIfInBounds_toArray]
 refine RegW.take (i:=4) (v:=?_) rfl (by kernel_rfl) (by kernel_rfl) (by kernel_rfl) (by kernel_rfl) (fun _ _ _ h => h) (Or.inl ⟨by kernel_rfl, ?_⟩) (by assumption) ?_
 rotate_left
 · intro w hSw
   go_split_ands
   go_simp
   try with_reducible rfl
 try simp only [Act.put]
 refine RegW.take (i:=5) (v:=?_) rfl (by kernel_rfl) (by kernel_rfl) (by kernel_rfl) (by kernel_rfl) (fun _ _ _ h => h) (Or.inl ⟨by kernel_rfl, ?_⟩) (by assumption) ?_
 rotate_left
 · intro w hSw
   go_split_ands
   go_simp
   try with_reducible rfl
 try simp only [Act.put]
 refine RegW.take (i:=6) (v:=?_) rfl (by kernel_rfl) (by kernel_rfl) (by kernel_rfl) (by kernel_rfl) (fun _ _ _ h => h) (Or.inl ⟨by kernel_rfl, ?_⟩) (by assumption) ?_
 rotate_left
 · intro w hSw
   go_split_ands
   go_simp
   try with_reducible rfl
 try simp only [Act.put]
 refine RegW.take (i:=7) (v:=?_) rfl (by kernel_rfl) (by kernel_rfl) (by kernel_rfl) (by kernel_rfl) (fun _ _ _ h => h) (Or.inl ⟨by kernel_rfl, ?_⟩) (by assumption) ?_
 rotate_left
 · intro w hSw
   go_split_ands
   go_simp
   try with_reducible rfl
 try simp only [Act.put]
 refine RegW.only (i:=8) rfl (by kernel_rfl) (fun K hK => ?_)
 go_simp
 go_at_call 41
 refine c3.calls0 ?_
 intro w4 h4
 replace HB:=lH (HB.out.step h4)
 clear h4
 refine hK.out _ _ ⟨HB,HPF.out.at_ HB.out⟩ (fun hHeld => ?_)
 clear hK K
 try simp only [Act.put,List.setIfInBounds_toArray,List.set_cons_zero,List.set_cons_succ]
 refine RegW.take (i:=9) (v:=?_) rfl (by kernel_rfl) (by kernel_rfl) (by kernel_rfl) (by kernel_rfl) (fun _ _ _ h => h) (Or.inl ⟨by kernel_rfl, ?_⟩) (by assumption) ?_
 rotate_left
 · intro w hSw
   go_split_ands
   go_simp
   try with_reducible rfl
 try simp only [Act.put,List.setIfInBounds_toArray]
 refine RegW.take (i:=10) (v:=?_) rfl (by kernel_rfl) (by kernel_rfl) (by kernel_rfl) (by kernel_rfl) (fun _ _ _ h => h) (Or.inl ⟨by kernel_rfl, ?_⟩) (by assumption) ?_
 rotate_left
 · intro w hSw
   go_split_ands
   go_simp
   try with_reducible rfl
 try simp only [Act.put]
 refine RegW.take (i:=11) (v:=?_) rfl (by kernel_rfl) (by kernel_rfl) (by kernel_rfl) (by kernel_rfl) (fun _ _ _ h => h) (Or.inl ⟨by kernel_rfl, ?_⟩) (by assumption) ?_
 rotate_left
 · intro w hSw
   go_split_ands
   go_simp
   try with_reducible rfl
 try simp only [Act.put]
 refine RegW.take (i:=12) (v:=?_) rfl (by kernel_rfl) (by kernel_rfl) (by kernel_rfl) (by kernel_rfl) (fun _ _ _ h => h) (Or.inl ⟨by kernel_rfl, ?_⟩) (by assumption) ?_
 rotate_left
 · intro w hSw
   go_split_ands
   go_simp
   try with_reducible rfl
 try simp only [Act.put]
 refine RegW.only (i:=13) rfl (by kernel_rfl) (fun K hK => ?_)
 go_simp
 refine hK.out _ _ ⟨lH (HB.out.alloc (.cells #[.int .i64 4] 3)),HPF.out.at_ (HB.out.alloc _)⟩ (fun hHeld => ?_)
 replace HB:=lH (HB.out.alloc (.cells #[.int .i64 4] 3))
 clear hK K
 try simp only [Act.put,List.setIfInBounds_toArray,List.set_cons_zero,List.set_cons_succ]
 refine RegW.only (i:=14) rfl (by kernel_rfl) (fun K hK => ?_)
 go_simp
 go_at_call 50
 refine (is_rd _ _ 0 [4] (by show 0 < 1; omega) _ Q2.out _ _ _ (F1.out.since HB.out) (tags_lit _ 4)).mono ?_
 rintro _ w5 ⟨rfl,h5⟩
 replace HB:=lH (HB.out.step h5)
 clear h5
 refine hK.out _ _ ⟨HB,HPF.out.at_ HB.out⟩ (fun hHeld => ?_)
 clear hK K
 try simp only [Act.put,List.setIfInBounds_toArray,List.set_cons_zero,List.set_cons_succ]
 refine RegW.take (i:=15) (v:=?_) rfl (by kernel_rfl) (by kernel_rfl) (by kernel_rfl) (by kernel_rfl) (fun _ _ _ h => h) (Or.inl ⟨by kernel_rfl, ?_⟩) (by assumption) ?_
 rotate_left
 · intro w hSw
   go_split_ands
   go_simp
   try with_reducible rfl
 try simp only [Act.put,List.setIfInBounds_toArray]
 refine RegW.take (i:=16) (v:=?_) rfl (by kernel_rfl) (by kernel_rfl) (by kernel_rfl) (by kernel_rfl) (fun _ _ _ h => h) (Or.inl ⟨by kernel_rfl, ?_⟩) (by assumption) ?_
 rotate_left
 · intro w hSw
   go_split_ands
   go_simp
   try with_reducible rfl
 try simp only [Act.put]
 refine RegW.take (i:=17) (v:=?_) rfl (by kernel_rfl) (by kernel_rfl) (by kernel_rfl) (by kernel_rfl) (fun _ _ _ h => h) (Or.inl ⟨by kernel_rfl, ?_⟩) (by assumption) ?_
 rotate_left
 · intro w hSw
   go_split_ands
   go_simp
   try with_reducible rfl
 try simp only [Act.put]
 refine RegW.only (i:=18) rfl (by kernel_rfl) (fun K hK => ?_)
 go_simp
 refine hK.out _ _ ⟨lH (HB.out.alloc (.cells #[.int .i64 0] 3)),HPF.out.at_ (HB.out.alloc _)⟩ (fun hHeld => ?_)
 replace HB:=lH (HB.out.alloc (.cells #[.int .i64 0] 3))
 clear hK K
 try simp only [Act.put,List.setIfInBounds_toArray,List.set_cons_zero,List.set_cons_succ]
 refine RegW.only (i:=19) rfl (by kernel_rfl) (fun K hK => ?_)
 go_simp
 go_at_call 50
 refine (is_rd _ _ 2 [0] (by show 0 < 1; omega) _ Q3.out _ _ _ (F2.out.since HB.out) (tags_lit _ 0)).mono ?_
 rintro _ w6 ⟨rfl,h6⟩
 replace HB:=lH (HB.out.step h6)
 clear h6
 refine hK.out _ _ ⟨HB,HPF.out.at_ HB.out⟩ (fun hHeld => ?_)
 clear hK K
 try simp only [Act.put,List.setIfInBounds_toArray,List.set_cons_zero,List.set_cons_succ]
 refine RegW.take (i:=20) (v:=?_) rfl (by kernel_rfl) (by kernel_rfl) (by kernel_rfl) (by kernel_rfl) (fun _ _ _ h => h) (Or.inl ⟨by kernel_rfl, ?_⟩) (by assumption) ?_
 rotate_left
 · intro w hSw
   go_split_ands
   go_simp
   try with_reducible rfl
 try simp only [Act.put,List.setIfInBounds_toArray]
 refine RegW.take (i:=21) (v:=?_) rfl (by kernel_rfl) (by kernel_rfl) (by kernel_rfl) (by kernel_rfl) (fun _ _ _ h => h) (Or.inl ⟨by kernel_rfl, ?_⟩) (by assumption) ?_
 rotate_left
 · intro w hSw
   go_split_ands
   go_simp
   try with_reducible rfl
 try simp only [Act.put]
 refine RegW.take (i:=22) (v:=?_) rfl (by kernel_rfl) (by kernel_rfl) (by kernel_rfl) (by kernel_rfl) (fun _ _ _ h => h) (Or.inl ⟨by kernel_rfl, ?_⟩) (by assumption) ?_
 rotate_left
 · intro w hSw
   go_split_ands
   go_simp
   try with_reducible rfl
 try simp only [Act.put]
 refine RegW.take (i:=23) (v:=?_) rfl (by kernel_rfl) (by kernel_rfl) (by kernel_rfl) (by kernel_rfl) (fun _ _ _ h => h) (Or.inl ⟨by kernel_rfl, ?_⟩) (by assumption) ?_
 rotate_left
 · intro w hSw
   go_split_ands
   go_simp
   try with_reducible rfl
 try simp only [Act.put]
 refine RegW.take (i:=24) (v:=?_) rfl (by kernel_rfl) (by kernel_rfl) (by kernel_rfl) (by kernel_rfl) (fun _ _ _ h => h) (Or.inl ⟨by kernel_rfl, ?_⟩) (by assumption) ?_
 rotate_left
 · intro w hSw
   go_split_ands
   go_simp
   try with_reducible rfl
 try simp only [Act.put]
 refine RegW.take (i:=25) (v:=?_) rfl (by kernel_rfl) (by kernel_rfl) (by kernel_rfl) (by kernel_rfl) (fun _ _ _ h => h) (Or.inl ⟨by kernel_rfl, ?_⟩) (by assumption) ?_
 rotate_left
 · intro w hSw
   go_split_ands
   go_simp
   try with_reducible rfl
 try simp only [Act.put]
 refine RegW.take (i:=26) (v:=?_) rfl (by kernel_rfl) (by kernel_rfl) (by kernel_rfl) (by kernel_rfl) (fun _ _ _ h => h) (Or.inl ⟨by kernel_rfl, ?_⟩) (by assumption) ?_
 rotate_left
 · intro w hSw
   go_split_ands
   go_simp
   try with_reducible rfl
 try simp only [Act.put]
 refine RegW.take (i:=27) (v:=?_) rfl (by kernel_rfl) (by kernel_rfl) (by kernel_rfl) (by kernel_rfl) (fun _ _ _ h => h) (Or.inl ⟨by kernel_rfl, ?_⟩) (by assumption) ?_
 rotate_left
 · intro w hSw
   go_split_ands
   go_simp
   try with_reducible rfl
 try simp only [Act.put]
 refine RegW.take (i:=28) (v:=?_) rfl (by kernel_rfl) (by kernel_rfl) (by kernel_rfl) (by kernel_rfl) (fun _ _ _ h => h) (Or.inl ⟨by kernel_rfl, ?_⟩) (by assumption) ?_
 rotate_left
 · intro w hSw
   go_split_ands
   go_simp
   try with_reducible rfl
 try simp only [Act.put]
 refine RegW.only (i:=29) rfl (by kernel_rfl) (fun K hK => ?_)
 go_simp
 refine hK.out _ _ ⟨lH (HB.out.alloc (.cells #[.int .i64 6] 3)),HPF.out.at_ (HB.out.alloc _)⟩ (fun hHeld => ?_)
 replace HB:=lH (HB.out.alloc (.cells #[.int .i64 6] 3))
 clear hK K
 try simp only [Act.put,List.setIfInBounds_toArray,List.set_cons_zero,List.set_cons_succ]
 refine RegW.only (i:=30) rfl (by kernel_rfl) (fun K hK => ?_)
 go_simp
 go_at_call 50
 refine (is_rd _ _ 0 [6] (by show 0 < 1; omega) _ QQ.out _ _ _ (F3.out.since HB.out) (tags_lit _ 6)).mono ?_
 rintro _ w7 ⟨rfl,h7⟩
 replace HB:=lH (HB.out.step h7)
 clear h7
 refine hK.out _ _ ⟨HB,HPF.out.at_ HB.out⟩ (fun hHeld => ?_)
 clear hK K
 try simp only [Act.put,List.setIfInBounds_toArray,List.set_cons_zero,List.set_cons_succ]
 refine RegW.take (i:=31) (v:=?_) rfl (by kernel_rfl) (by kernel_rfl) (by kernel_rfl) (by kernel_rfl) (fun _ _ _ h => h) (Or.inl ⟨by kernel_rfl, ?_⟩) (by assumption) ?_
 rotate_left
 · intro w hSw
   go_split_ands
   go_simp
   try with_reducible rfl
 try simp only [Act.put,List.setIfInBounds_toArray]
 refine RegW.last rfl (by kernel_rfl) (by kernel_rfl) ?_
 clear hHeld
 go_wp2_with fail
 go_ret
 exact ⟨rfl,HS.out.step HB.out⟩
end Sec
end Go.Proofs.YtpanhhjkecebkaaGreatDoor
