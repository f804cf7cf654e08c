import Derived.Test.YtpanhhjkecebkaaGreatPt32
import Derived.Test.YtpanhhjkecebkaaGreatPt37
import Derived.Test.YtpanhhjkecebkaaGreatPt56
import Derived.Test.YtpanhhjkecebkaaGreatPt52
set_option maxRecDepth 100000
namespace Go.Proofs.YtpanhhjkecebkaaGreat
open Go.RowKit Go.Sort
namespace Setof
structure Kept (W W':World) (g:Nat):Prop where
 os:W'.os = W.os
 out:W'.output = W.output
 tape:W'.tape = W.tape
 size:W.heap.size <= W'.heap.size
 block:∀ b,b < W.heap.size -> b ≠ g -> W'.heap[b]? = W.heap[b]?
end Setof
end Go.Proofs.YtpanhhjkecebkaaGreat
set_option maxRecDepth 100000
namespace Go.Proofs.YtpanhhjkecebkaaGreat
open Go.RowKit
namespace Pk
open Tlv Tree Strs Rw
structure Cv (b o:Nat) (v:Value) (W:World):Prop where
 lt:b < W.heap.size
 cell:W.cell? ⟨b,o,none⟩ = some v
theorem Cv.since {b o:Nat} {v:Value} {W W':World} (h:Cv b o v W) (hs:Since W W'):Cv b o v W':=⟨Nat.lt_of_lt_of_le h.lt (Below.size hs),(Below.cell hs (p:=⟨b,o,none⟩) h.lt).trans h.cell⟩
set_option maxHeartbeats 16000000 in
theorem rpdec_4 (s:ByteArray) (C P:Int) (hC:(C != 0) = false) (N:List Nd) (d1:RDecT s C P N) (x0:Nd) (hx0:N[0]? = some x0) (h3:x0.k.length = 3) (j1 j2:Nat) (hj1:x0.k[1]? = some (j1:Int)) (hj2:x0.k[2]? = some (j2:Int)) (x1 x2:Nd) (hx1:N[j1]? = some x1) (hx2:N[j2]? = some x2) (h2:x1.k.length = 2) (ja jb:Nat) (hja:x1.k[0]? = some (ja:Int)) (hjb:x1.k[1]? = some (jb:Int)) (ya yb:Nd) (hya:N[ja]? = some ya) (hyb:N[jb]? = some yb)
   (xs ps:List Int) (qa qb:Bool) (c3:MkI 64 #[.string ya.d] xs qa) (c4:MkI 64 #[.string yb.d] ps qb)
   (X:ByteArray) (E:Int) (c5:RdP 28 xs ps x2.d ⟨#[]⟩ (.tuple #[.string X,.int .i64 E])) (R:List Int × List Int × ByteArray × ByteArray × Int) (hE:((E != 0) = true /\ R = ([],[],⟨#[]⟩,⟨#[]⟩,5)) ∨ ((E != 0) = false /\ (X.toList == s.toList) = false /\ R = ([],[],⟨#[]⟩,⟨#[]⟩,5)) ∨ ((E != 0) = false /\ (X.toList == s.toList) = true /\ R = (xs,ps,x2.d,⟨#[]⟩,0))):DecI 30 s R.1 R.2.1 R.2.2.1 R.2.2.2.1 R.2.2.2.2:=by
 intro w;have hr:=lH (show HR w w.heap.size #[.slice none 0 0,.slice none 0 0,.string ⟨#[]⟩,.string ⟨#[]⟩] 46 (w.alloc (.cells #[.slice none 0 0,.slice none 0 0,.string ⟨#[]⟩,.string ⟨#[]⟩] 46)) from ⟨heap_alloc_new w _⟩);have HS:=lH ((Since.refl w).alloc (.cells #[.slice none 0 0,.slice none 0 0,.string ⟨#[]⟩,.string ⟨#[]⟩] 46))
 go_enter Tryz.func30,Tryz.ntmps30
 go_wp2_with fail;refine (d1 _).mono ?_;rintro _ w1 ⟨u1,rfl,hU,h1⟩;replace hU:=hU.tree;obtain ⟨A1,q1,e1,-,-⟩:=hU.slice;subst e1;replace HS:=lH (HS.out.step h1);replace hr:=lH (hr.out.step h1);have r1:(w1.alloc (.cells #[.int .i64 0,.int .i64 0] 65)).heap[w1.heap.size]? = some (.cells #[.int .i64 0,.int .i64 0] 65 (0,0)):=heap_alloc_new w1 _;have hb:=lH (hb_row (K:=KT) (C':=#[.int .i64 C,.int .i64 P]) ((Since.refl w1).alloc _) (Nat.le_refl _) trivial r1);have y0:=hb.out.cell 0 _ rfl;have hlw:w.heap.size < w1.heap.size:=(Array.getElem?_eq_some_iff.1 hr.out.row).1;replace HS:=lH (HS.out.step hb.out.since);replace hr:=lH (hr.out.step hb.out.since);have HU:=lH (hU.since hb.out.since);obtain ⟨n0,hn0⟩:∃ n,n = N.length:=⟨_,rfl⟩
 rw [<- hn0] at HU ⊢;have HN0:=lH hn0;clear hU h1 hn0;obtain ⟨b,o,cc,hv,g1,g2,g3,g4⟩:=HU.out.form (List.getElem?_eq_some_iff.1 hx0).1;obtain ⟨e1,e2,e3⟩:=Value.slice.inj hv;subst e1;subst e3;obtain ⟨kv,-,-,-,-,m4,hk⟩:=g4 0 x0 hx0;rw [Nat.zero_mul,Nat.add_zero] at m4;obtain ⟨AK,qk,ek,-,-⟩:=hk.slice;subst ek;obtain ⟨nk,hnk⟩:∃ n,n = x0.k.length:=⟨_,rfl⟩
 rw [<- hnk] at m4 hk;have i0:(0:Int) < (n0:Int):=by have:=(List.getElem?_eq_some_iff.1 hx0).1; omega
 have i00:0 < n0:=by omega
 have HNK:=lH hnk;have HK:=lH hk;obtain rfl:nk = 3:=by omega
 obtain ⟨bk,ok,ck,hvk,-,-,lk,hck⟩:=SlR.form hk (by omega);obtain ⟨e4,-,e5⟩:=Value.slice.inj hvk;subst e4;subst e5;have k1:=hck 1 (.int .i64 (j1:Int)) (by rw [List.getElem?_map,hj1]; rfl);have k2:=hck 2 (.int .i64 (j2:Int)) (by rw [List.getElem?_map,hj2]; rfl);obtain ⟨kv1,-,-,-,-,m5,hk1⟩:=g4 j1 x1 hx1;obtain ⟨AL,ql,el,-,-⟩:=hk1.slice;subst el;rw [h2] at m5 hk1;obtain ⟨bl,ol,cl,hvl,-,-,ll,hcl⟩:=SlR.form hk1 (by omega);obtain ⟨e6,-,e7⟩:=Value.slice.inj hvl;subst e6;subst e7;have p0:=hcl 0 (.int .i64 (ja:Int)) (by rw [List.getElem?_map,hja]; rfl);have p1:=hcl 1 (.int .i64 (jb:Int)) (by rw [List.getElem?_map,hjb]; rfl);rw [Nat.add_zero] at p0;obtain ⟨kv2,-,-,-,n2,-,-⟩:=g4 j2 x2 hx2;obtain ⟨kva,-,-,-,na,-,-⟩:=g4 ja ya hya;obtain ⟨kvb,-,-,-,nb,-,-⟩:=g4 jb yb hyb;have CP0:=lH (Cv.mk ll p0);have CP1:=lH (Cv.mk ll p1);have CNA:=lH (Cv.mk g3 na);have CNB:=lH (Cv.mk g3 nb);have j10:(0:Int) <= (j1:Int):=by omega
 have j1n:(j1:Int) < (n0:Int):=by have:=(List.getElem?_eq_some_iff.1 hx1).1; omega
 have j20:(0:Int) <= (j2:Int):=by omega
 have j2n:(j2:Int) < (n0:Int):=by have:=(List.getElem?_eq_some_iff.1 hx2).1; omega
 have ja0:(0:Int) <= (ja:Int):=by omega
 have jan:(ja:Int) < (n0:Int):=by have:=(List.getElem?_eq_some_iff.1 hya).1; omega
 have jb0:(0:Int) <= (jb:Int):=by omega
 have jbn:(jb:Int) < (n0:Int):=by have:=(List.getElem?_eq_some_iff.1 hyb).1; omega
 have hw1:w.heap.size < w1.heap.size:=hlw;have CD:=CP0;clear hv e2 g1 g2 g3 g4 hk hnk h3 h2 hk1 hvk hck lk hvl hcl ll p0 p1 na nb;go_wp2_with (first
   | (refine RwL.at_store (ty:=65) rfl ?_; refine wpList_store_row rfl 65 _ _ rfl w1.heap.size #[.int .i64 C,.int .i64 P] (by rfl) (by rfl) _ _ r1 (f2_info C P) rfl (f2_one C P) ?_; generalize hw2:(w1.alloc (.cells #[.int .i64 0,.int .i64 0] 65)).setRow w1.heap.size #[.int .i64 C,.int .i64 P] = w2 at HS hr HU y0 m4 k1 k2 m5 n2 CP0 CP1 CNA CNB HK CD ⊢; clear hw2 r1 hb; have hwl:w.heap.size < w2.heap.size:=(Array.getElem?_eq_some_iff.1 hr.out.row).1; have hr5:Hid (HR w w.heap.size #[.slice none 0 0,.slice none 0 0,.string ⟨#[]⟩,.string ⟨#[]⟩] 46 (w2.alloc (.cells #[.slice none 0 0,.slice none 0 0,.string ⟨#[]⟩,.string ⟨#[]⟩] 46))):=lH (hr_old hr.out _); have r5:(w2.alloc (.cells #[.slice none 0 0,.slice none 0 0,.string ⟨#[]⟩,.string ⟨#[]⟩] 46)).heap[w2.heap.size]? = some (.cells #[.slice none 0 0,.slice none 0 0,.string ⟨#[]⟩,.string ⟨#[]⟩] 46 (0,0)):=heap_alloc_new w2 _; have HS5:=lH (HS.out.alloc (.cells #[.slice none 0 0,.slice none 0 0,.string ⟨#[]⟩,.string ⟨#[]⟩] 46)); have H55:Hid (Since w2 (w2.alloc (.cells #[.slice none 0 0,.slice none 0 0,.string ⟨#[]⟩,.string ⟨#[]⟩] 46))):=lH ((Since.refl w2).alloc _))
   | (refine RwL.at_store (ty:=46) rfl ?_; refine wpList_store_row rfl 46 _ _ rfl w2.heap.size #[.slice none 0 0,.slice none 0 0,.string x2.d,.string ⟨#[]⟩] (by rfl) (by rfl) _ _ r5 (i4_infoR _ _ _ _) rfl (i4_one _ _ _ _ _ _ _ _) ?_; have hi6:=lH (hi_mk w r5 #[.slice none 0 0,.slice none 0 0,.string x2.d,.string ⟨#[]⟩]); have hr6:=lH (hr_oth hr5.out (show w.heap.size ≠ w2.heap.size by omega) #[.slice none 0 0,.slice none 0 0,.string x2.d,.string ⟨#[]⟩]); have HS6:=lH (since_row HS5.out (Nat.le_of_lt hwl) #[.slice none 0 0,.slice none 0 0,.string x2.d,.string ⟨#[]⟩]); have H56:=lH (since_row H55.out (Nat.le_refl _) #[.slice none 0 0,.slice none 0 0,.string x2.d,.string ⟨#[]⟩]); have p0:=(CP0.out.since H56.out).cell; have na:=(CNA.out.since H56.out).cell; generalize (w2.alloc (.cells #[.slice none 0 0,.slice none 0 0,.string ⟨#[]⟩,.string ⟨#[]⟩] 46)).setRow w2.heap.size #[.slice none 0 0,.slice none 0 0,.string x2.d,.string ⟨#[]⟩] = w6 at hi6 hr6 HS6 H56 p0 na ⊢; clear r5 hr5 HS5 H55 m4 k1 k2 m5 n2 y0))
 refine (c3 w6).mono ?_;rintro _ w7 ⟨va,rfl,hva,h7⟩;obtain ⟨Aa,qa',ea,-,-⟩:=hva.slice;subst ea;obtain ⟨nx,hnx⟩:∃ n,n = xs.length:=⟨_,rfl⟩
 rw [<- hnx] at hva ⊢;have HVA:=lH hva;replace HS6:=lH (HS6.out.step h7);replace hr6:=lH (hr6.out.step h7);replace hi6:=lH (hi6.out.step h7);replace H56:=lH (H56.out.step h7);have k0:w7.cell? ⟨w2.heap.size,0,none⟩ = some (.slice none 0 0):=hr_cell hi6.out 0 _ rfl;have f0:=hr_free hi6.out 0;have H8:Hid (Since w2 (w7.setCell ⟨w2.heap.size,0,none⟩ (.slice Aa nx qa'))):=lH (since_cell H56.out (Nat.le_refl _) 0 _);have hi8:Hid (HR w w2.heap.size #[.slice Aa nx qa',.slice none 0 0,.string x2.d,.string ⟨#[]⟩] 46 (w7.setCell ⟨w2.heap.size,0,none⟩ (.slice Aa nx qa'))):=lH (hr_set hi6.out 0 _);have hr8:Hid (HR w w.heap.size #[.slice none 0 0,.slice none 0 0,.string ⟨#[]⟩,.string ⟨#[]⟩] 46 (w7.setCell ⟨w2.heap.size,0,none⟩ (.slice Aa nx qa'))):=lH (hr_low hr6.out hi6.out (by omega) _ _);have HS8:=lH (since_cell HS6.out (Nat.le_of_lt hwl) 0 (.slice Aa nx qa'));have HVA8:Hid (IntsS (w7.setCell ⟨w2.heap.size,0,none⟩ (.slice Aa nx qa')) (.slice Aa nx qa') xs):=lH (ints_set hi6.out (i4_ints _ _ _ _ _ _ _ _) 0 _ hva);replace p0:=(CP1.out.since H8.out).cell;replace na:=(CNB.out.since H8.out).cell;clear h7 hva hnx;go_wp2_with fail;generalize w7.setCell ⟨w2.heap.size,0,none⟩ (.slice Aa nx qa') = w8 at H8 hi8 hr8 HS8 HVA8 ⊢;clear k0 f0 p0 na HVA H56 hi6 hr6 HS6;refine (c4 w8).mono ?_;rintro _ w9 ⟨vb,rfl,hvb,h9⟩;obtain ⟨Ab,qb',eb,-,-⟩:=hvb.slice;subst eb;obtain ⟨ny,hny⟩:∃ n,n = ps.length:=⟨_,rfl⟩
 rw [<- hny] at hvb ⊢;replace HS8:=lH (HS8.out.step h9);replace hr8:=lH (hr8.out.step h9);replace hi8:=lH (hi8.out.step h9);replace H8:=lH (H8.out.step h9);replace HVA8:=lH (HVA8.out.since h9);have k1:w9.cell? ⟨w2.heap.size,1,none⟩ = some (.slice none 0 0):=hr_cell hi8.out 1 _ rfl;have f1:=hr_free hi8.out 1;have H10:Hid (Since w2 (w9.setCell ⟨w2.heap.size,1,none⟩ (.slice Ab ny qb'))):=lH (since_cell H8.out (Nat.le_refl _) 1 _);have hi10:Hid (HR w w2.heap.size #[.slice Aa nx qa',.slice Ab ny qb',.string x2.d,.string ⟨#[]⟩] 46 (w9.setCell ⟨w2.heap.size,1,none⟩ (.slice Ab ny qb'))):=lH (hr_set hi8.out 1 _);have hr10:Hid (HR w w.heap.size #[.slice none 0 0,.slice none 0 0,.string ⟨#[]⟩,.string ⟨#[]⟩] 46 (w9.setCell ⟨w2.heap.size,1,none⟩ (.slice Ab ny qb'))):=lH (hr_low hr8.out hi8.out (by omega) _ _);have HS10:=lH (since_cell HS8.out (Nat.le_of_lt hwl) 1 (.slice Ab ny qb'));have HVA10:Hid (IntsS (w9.setCell ⟨w2.heap.size,1,none⟩ (.slice Ab ny qb')) (.slice Aa nx qa') xs):=lH (ints_set hi8.out (i4_ints _ _ _ _ _ _ _ _) 1 _ HVA8.out);have HVB10:Hid (IntsS (w9.setCell ⟨w2.heap.size,1,none⟩ (.slice Ab ny qb')) (.slice Ab ny qb') ps):=lH (ints_set hi8.out (i4_ints _ _ _ _ _ _ _ _) 1 _ hvb);clear h9 hvb hny H8 hi8 hr8 HS8 HVA8;have l0:(w9.setCell ⟨w2.heap.size,1,none⟩ (.slice Ab ny qb')).cell? ⟨w2.heap.size,0,none⟩ = some (.slice Aa nx qa'):=hr_cell hi10.out 0 _ rfl;have l1:(w9.setCell ⟨w2.heap.size,1,none⟩ (.slice Ab ny qb')).cell? ⟨w2.heap.size,1,none⟩ = some (.slice Ab ny qb'):=hr_cell hi10.out 1 _ rfl;have l2:(w9.setCell ⟨w2.heap.size,1,none⟩ (.slice Ab ny qb')).cell? ⟨w2.heap.size,2,none⟩ = some (.string x2.d):=hr_cell hi10.out 2 _ rfl;have l3:(w9.setCell ⟨w2.heap.size,1,none⟩ (.slice Ab ny qb')).cell? ⟨w2.heap.size,3,none⟩ = some (.string ⟨#[]⟩):=hr_cell hi10.out 3 _ rfl;go_wp2_with fail;generalize w9.setCell ⟨w2.heap.size,1,none⟩ (.slice Ab ny qb') = w10 at H10 hi10 hr10 HS10 HVA10 HVB10 ⊢;clear k1 f1 l0 l1 l2 l3;refine (c5 w10 _ _ HVA10.out HVB10.out).mono ?_;rintro _ w11 ⟨rfl,h11⟩;replace HS10:=lH (HS10.out.step h11);replace hr10:=lH (hr10.out.step h11);replace hi10:=lH (hi10.out.step h11);replace HVA10:=lH (HVA10.out.since h11);replace HVB10:=lH (HVB10.out.since h11);clear h11;rcases hE with ⟨hE,hq⟩ | ⟨hE,hX,hq⟩ | ⟨hE,hX,hq⟩
 · subst hq;go_wp2_with (refine RwL.at_store (ty:=46) rfl ?_; refine wpList_store_row rfl 46 _ _ rfl w.heap.size #[.slice none 0 0,.slice none 0 0,.string ⟨#[]⟩,.string ⟨#[]⟩] (by rfl) (by rfl) _ _ hr10.out.row (i4_infoR _ _ _ _) rfl (i4_one _ _ _ _ _ _ _ _) ?_)
   exact bodyPost_ret (v:=.tuple #[.agg #[.slice none 0 0,.slice none 0 0,.string ⟨#[]⟩,.string ⟨#[]⟩],.int .i64 5]) (results_cell_tmp2 Tryz.results30 _ _ _ _ _ _ _ _ rfl rfl (setRow_heap _ _ _ _ _ _ hr10.out.row) Tryz.underlying46 rfl (i4_infoR _ _ _ _)) rfl ⟨_,_,rfl,IntsS.nil _,IntsS.nil _,below_setRow HS10.out (Nat.le_refl _) _⟩
 · subst hq;go_wp2_with (refine RwL.at_store (ty:=46) rfl ?_; refine wpList_store_row rfl 46 _ _ rfl w.heap.size #[.slice none 0 0,.slice none 0 0,.string ⟨#[]⟩,.string ⟨#[]⟩] (by rfl) (by rfl) _ _ hr10.out.row (i4_infoR _ _ _ _) rfl (i4_one _ _ _ _ _ _ _ _) ?_)
   exact bodyPost_ret (v:=.tuple #[.agg #[.slice none 0 0,.slice none 0 0,.string ⟨#[]⟩,.string ⟨#[]⟩],.int .i64 5]) (results_cell_tmp2 Tryz.results30 _ _ _ _ _ _ _ _ rfl rfl (setRow_heap _ _ _ _ _ _ hr10.out.row) Tryz.underlying46 rfl (i4_infoR _ _ _ _)) rfl ⟨_,_,rfl,IntsS.nil _,IntsS.nil _,below_setRow HS10.out (Nat.le_refl _) _⟩
 · subst hq;have l0:w11.cell? ⟨w2.heap.size,0,none⟩ = some (.slice Aa nx qa'):=hr_cell hi10.out 0 _ rfl;have l1:w11.cell? ⟨w2.heap.size,1,none⟩ = some (.slice Ab ny qb'):=hr_cell hi10.out 1 _ rfl;have l2:w11.cell? ⟨w2.heap.size,2,none⟩ = some (.string x2.d):=hr_cell hi10.out 2 _ rfl;have l3:w11.cell? ⟨w2.heap.size,3,none⟩ = some (.string ⟨#[]⟩):=hr_cell hi10.out 3 _ rfl;go_wp2_with (refine RwL.at_store (ty:=46) rfl ?_; refine wpList_store_row rfl 46 _ _ rfl w.heap.size #[.slice Aa nx qa',.slice Ab ny qb',.string x2.d,.string ⟨#[]⟩] (by rfl) (by rfl) _ _ hr10.out.row (i4_infoR _ _ _ _) rfl (i4_one _ _ _ _ _ _ _ _) ?_)
   exact bodyPost_ret (v:=.tuple #[.agg #[.slice Aa nx qa',.slice Ab ny qb',.string x2.d,.string ⟨#[]⟩],.int .i64 0]) (results_cell_tmp2 Tryz.results30 _ _ _ _ _ _ _ _ rfl rfl (setRow_heap _ _ _ _ _ _ hr10.out.row) Tryz.underlying46 rfl (i4_infoR _ _ _ _)) rfl ⟨_,_,rfl,ints_row hr10.out (i4_ints _ _ _ _ _ _ _ _) _ HVA10.out,ints_row hr10.out (i4_ints _ _ _ _ _ _ _ _) _ HVB10.out,since_row HS10.out (Nat.le_refl _) _⟩
theorem catB_snoc (es:List ByteArray) (n:Nat) (e:ByteArray) (h:es[n]? = some e):Atm.catB (es.take (n + 1)) = Atm.catB (es.take n) ++ e:=by
 rw [Att.take_snoc es n e h];unfold Atm.catB
 apply ba_ext
 rw [app_list,list_bs,list_bs,List.map_append,List.flatten_append]
 show _ ++ (Setof.dl e ++ []) = _
 rw [List.append_nil];rfl
theorem catB_le (es:List ByteArray) (n:Nat):(Atm.catB (es.take n)).size <= (Atm.catB es).size:=by
 unfold Atm.catB;rw [size_bs,size_bs]
 conv => rhs; rw [<- List.take_append_drop n es,List.map_append,List.flatten_append,List.length_append]
 omega
set_option maxHeartbeats 16000000 in
theorem rpdec_5 (s:ByteArray) (C P:Int) (hC:(C != 0) = false) (N:List Nd) (d1:RDecT s C P N) (x0:Nd) (hx0:N[0]? = some x0) (h3:x0.k.length = 4) (j1 j2 j3:Nat) (hj1:x0.k[1]? = some (j1:Int)) (hj2:x0.k[2]? = some (j2:Int)) (hj3:x0.k[3]? = some (j3:Int)) (x1 x2 x3:Nd) (hx1:N[j1]? = some x1) (hx2:N[j2]? = some x2) (hx3:N[j3]? = some x3) (h2:x1.k.length = 2) (ja jb:Nat) (hja:x1.k[0]? = some (ja:Int)) (hjb:x1.k[1]? = some (jb:Int)) (ya yb:Nd) (hya:N[ja]? = some ya) (hyb:N[jb]? = some yb)
   (xs ps:List Int) (qa qb:Bool) (c3:MkI 64 #[.string ya.d] xs qa) (c4:MkI 64 #[.string yb.d] ps qb)
   (es:List ByteArray) (hel:es.length = x3.k.length) (hem:x3.k.length <= 1000) (hJ:(Atm.catB es).size <= 1000000) (cS:∀ (n:Nat) (jn:Int) (e:ByteArray),x3.k[n]? = some jn -> es[n]? = some e -> ∃ G,∃ E':Int,MkE 71 N (fun v => #[v,.int .i64 jn]) G /\ RdT 58 G (fun v => #[v]) (.tuple #[.string e,.int .i64 E']))
   (X:ByteArray) (E:Int) (c5:RdP 28 xs ps x2.d (Atm.catB es) (.tuple #[.string X,.int .i64 E])) (R:List Int × List Int × ByteArray × ByteArray × Int) (hE:((E != 0) = true /\ R = ([],[],⟨#[]⟩,⟨#[]⟩,5)) ∨ ((E != 0) = false /\ (X.toList == s.toList) = false /\ R = ([],[],⟨#[]⟩,⟨#[]⟩,5)) ∨ ((E != 0) = false /\ (X.toList == s.toList) = true /\ R = (xs,ps,x2.d,Atm.catB es,0))):DecI 30 s R.1 R.2.1 R.2.2.1 R.2.2.2.1 R.2.2.2.2:=by
 have HCS:=lH cS;have HEL:=lH hel;have HEM:=lH hem;have HJ:=lH hJ;clear cS hel hem hJ;intro w;have hr:=lH (show HR w w.heap.size #[.slice none 0 0,.slice none 0 0,.string ⟨#[]⟩,.string ⟨#[]⟩] 46 (w.alloc (.cells #[.slice none 0 0,.slice none 0 0,.string ⟨#[]⟩,.string ⟨#[]⟩] 46)) from ⟨heap_alloc_new w _⟩);have HS:=lH ((Since.refl w).alloc (.cells #[.slice none 0 0,.slice none 0 0,.string ⟨#[]⟩,.string ⟨#[]⟩] 46))
 go_enter Tryz.func30,Tryz.ntmps30
 go_wp2_with fail;refine (d1 _).mono ?_;rintro _ w1 ⟨u1,rfl,hU,h1⟩;replace hU:=hU.tree;obtain ⟨A1,q1,e1,-,-⟩:=hU.slice;subst e1;replace HS:=lH (HS.out.step h1);replace hr:=lH (hr.out.step h1);have r1:(w1.alloc (.cells #[.int .i64 0,.int .i64 0] 65)).heap[w1.heap.size]? = some (.cells #[.int .i64 0,.int .i64 0] 65 (0,0)):=heap_alloc_new w1 _;have hb:=lH (hb_row (K:=KT) (C':=#[.int .i64 C,.int .i64 P]) ((Since.refl w1).alloc _) (Nat.le_refl _) trivial r1);have y0:=hb.out.cell 0 _ rfl;have hlw:w.heap.size < w1.heap.size:=(Array.getElem?_eq_some_iff.1 hr.out.row).1;replace HS:=lH (HS.out.step hb.out.since);replace hr:=lH (hr.out.step hb.out.since);have HU:=lH (hU.since hb.out.since);obtain ⟨n0,hn0⟩:∃ n,n = N.length:=⟨_,rfl⟩
 rw [<- hn0] at HU ⊢;have HN0:=lH hn0;clear hU h1 hn0;obtain ⟨b,o,cc,hv,g1,g2,g3,g4⟩:=HU.out.form (List.getElem?_eq_some_iff.1 hx0).1;obtain ⟨e1,e2,e3⟩:=Value.slice.inj hv;subst e1;subst e3;obtain ⟨kv,-,-,-,-,m4,hk⟩:=g4 0 x0 hx0;rw [Nat.zero_mul,Nat.add_zero] at m4;obtain ⟨AK,qk,ek,-,-⟩:=hk.slice;subst ek;obtain ⟨nk,hnk⟩:∃ n,n = x0.k.length:=⟨_,rfl⟩
 rw [<- hnk] at m4 hk;have i0:(0:Int) < (n0:Int):=by have:=(List.getElem?_eq_some_iff.1 hx0).1; omega
 have i00:0 < n0:=by omega
 have HNK:=lH hnk;have HK:=lH hk;obtain rfl:nk = 4:=by omega
 obtain ⟨bk,ok,ck,hvk,-,-,lk,hck⟩:=SlR.form hk (by omega);obtain ⟨e4,-,e5⟩:=Value.slice.inj hvk;subst e4;subst e5;have k1:=hck 1 (.int .i64 (j1:Int)) (by rw [List.getElem?_map,hj1]; rfl);have k2:=hck 2 (.int .i64 (j2:Int)) (by rw [List.getElem?_map,hj2]; rfl);obtain ⟨kv1,-,-,-,-,m5,hk1⟩:=g4 j1 x1 hx1;obtain ⟨AL,ql,el,-,-⟩:=hk1.slice;subst el;rw [h2] at m5 hk1;obtain ⟨bl,ol,cl,hvl,-,-,ll,hcl⟩:=SlR.form hk1 (by omega);obtain ⟨e6,-,e7⟩:=Value.slice.inj hvl;subst e6;subst e7;have p0:=hcl 0 (.int .i64 (ja:Int)) (by rw [List.getElem?_map,hja]; rfl);have p1:=hcl 1 (.int .i64 (jb:Int)) (by rw [List.getElem?_map,hjb]; rfl);rw [Nat.add_zero] at p0;obtain ⟨kv2,-,-,-,n2,-,-⟩:=g4 j2 x2 hx2;obtain ⟨kva,-,-,-,na,-,-⟩:=g4 ja ya hya;obtain ⟨kvb,-,-,-,nb,-,-⟩:=g4 jb yb hyb;have CP0:=lH (Cv.mk ll p0);have CP1:=lH (Cv.mk ll p1);have CNA:=lH (Cv.mk g3 na);have CNB:=lH (Cv.mk g3 nb);have j10:(0:Int) <= (j1:Int):=by omega
 have j1n:(j1:Int) < (n0:Int):=by have:=(List.getElem?_eq_some_iff.1 hx1).1; omega
 have j20:(0:Int) <= (j2:Int):=by omega
 have j2n:(j2:Int) < (n0:Int):=by have:=(List.getElem?_eq_some_iff.1 hx2).1; omega
 have ja0:(0:Int) <= (ja:Int):=by omega
 have jan:(ja:Int) < (n0:Int):=by have:=(List.getElem?_eq_some_iff.1 hya).1; omega
 have jb0:(0:Int) <= (jb:Int):=by omega
 have jbn:(jb:Int) < (n0:Int):=by have:=(List.getElem?_eq_some_iff.1 hyb).1; omega
 have hw1:w.heap.size < w1.heap.size:=hlw;have k3:=hck 3 (.int .i64 (j3:Int)) (by rw [List.getElem?_map,hj3]; rfl); obtain ⟨kv3,-,-,-,-,m6,hk3⟩:=g4 j3 x3 hx3; obtain ⟨AM,qm,em,-,-⟩:=hk3.slice; subst em; obtain ⟨m,hm⟩:∃ m,m = x3.k.length:=⟨_,rfl⟩; rw [<- hm] at m6 hk3; have CK3:=lH (Cv.mk lk k3); have CM6:=lH (Cv.mk g3 m6); have HK3:=lH hk3; have j30:(0:Int) <= (j3:Int):=(by omega); have j3n:(j3:Int) < (n0:Int):=(by have:=(List.getElem?_eq_some_iff.1 hx3).1; omega); have HM:=lH hm; clear k3 m6 hk3 hm;clear hv e2 g1 g2 g3 g4 hk hnk h3 h2 hk1 hvk hck lk hvl hcl ll p0 p1 na nb;go_wp2_with (first
   | (refine RwL.at_store (ty:=65) rfl ?_; refine wpList_store_row rfl 65 _ _ rfl w1.heap.size #[.int .i64 C,.int .i64 P] (by rfl) (by rfl) _ _ r1 (f2_info C P) rfl (f2_one C P) ?_; generalize hw2:(w1.alloc (.cells #[.int .i64 0,.int .i64 0] 65)).setRow w1.heap.size #[.int .i64 C,.int .i64 P] = w2 at HS hr HU y0 m4 k1 k2 m5 n2 CP0 CP1 CNA CNB HK CK3 CM6 HK3 ⊢; clear hw2 r1 hb; have hwl:w.heap.size < w2.heap.size:=(Array.getElem?_eq_some_iff.1 hr.out.row).1; have hr5:Hid (HR w w.heap.size #[.slice none 0 0,.slice none 0 0,.string ⟨#[]⟩,.string ⟨#[]⟩] 46 (w2.alloc (.cells #[.slice none 0 0,.slice none 0 0,.string ⟨#[]⟩,.string ⟨#[]⟩] 46))):=lH (hr_old hr.out _); have r5:(w2.alloc (.cells #[.slice none 0 0,.slice none 0 0,.string ⟨#[]⟩,.string ⟨#[]⟩] 46)).heap[w2.heap.size]? = some (.cells #[.slice none 0 0,.slice none 0 0,.string ⟨#[]⟩,.string ⟨#[]⟩] 46 (0,0)):=heap_alloc_new w2 _; have HS5:=lH (HS.out.alloc (.cells #[.slice none 0 0,.slice none 0 0,.string ⟨#[]⟩,.string ⟨#[]⟩] 46)); have H55:Hid (Since w2 (w2.alloc (.cells #[.slice none 0 0,.slice none 0 0,.string ⟨#[]⟩,.string ⟨#[]⟩] 46))):=lH ((Since.refl w2).alloc _))
   | (refine RwL.at_store (ty:=46) rfl ?_; refine wpList_store_row rfl 46 _ _ rfl w2.heap.size #[.slice none 0 0,.slice none 0 0,.string x2.d,.string ⟨#[]⟩] (by rfl) (by rfl) _ _ r5 (i4_infoR _ _ _ _) rfl (i4_one _ _ _ _ _ _ _ _) ?_; have hi6:=lH (hi_mk w r5 #[.slice none 0 0,.slice none 0 0,.string x2.d,.string ⟨#[]⟩]); have hr6:=lH (hr_oth hr5.out (show w.heap.size ≠ w2.heap.size by omega) #[.slice none 0 0,.slice none 0 0,.string x2.d,.string ⟨#[]⟩]); have HS6:=lH (since_row HS5.out (Nat.le_of_lt hwl) #[.slice none 0 0,.slice none 0 0,.string x2.d,.string ⟨#[]⟩]); have H56:=lH (since_row H55.out (Nat.le_refl _) #[.slice none 0 0,.slice none 0 0,.string x2.d,.string ⟨#[]⟩]); have p0:=(CP0.out.since H56.out).cell; have na:=(CNA.out.since H56.out).cell; generalize (w2.alloc (.cells #[.slice none 0 0,.slice none 0 0,.string ⟨#[]⟩,.string ⟨#[]⟩] 46)).setRow w2.heap.size #[.slice none 0 0,.slice none 0 0,.string x2.d,.string ⟨#[]⟩] = w6 at hi6 hr6 HS6 H56 p0 na ⊢; clear r5 hr5 HS5 H55 m4 k1 k2 m5 n2 y0))
 refine (c3 w6).mono ?_;rintro _ w7 ⟨va,rfl,hva,h7⟩;obtain ⟨Aa,qa',ea,-,-⟩:=hva.slice;subst ea;obtain ⟨nx,hnx⟩:∃ n,n = xs.length:=⟨_,rfl⟩
 rw [<- hnx] at hva ⊢;have HVA:=lH hva;replace HS6:=lH (HS6.out.step h7);replace hr6:=lH (hr6.out.step h7);replace hi6:=lH (hi6.out.step h7);replace H56:=lH (H56.out.step h7);have k0:w7.cell? ⟨w2.heap.size,0,none⟩ = some (.slice none 0 0):=hr_cell hi6.out 0 _ rfl;have f0:=hr_free hi6.out 0;have H8:Hid (Since w2 (w7.setCell ⟨w2.heap.size,0,none⟩ (.slice Aa nx qa'))):=lH (since_cell H56.out (Nat.le_refl _) 0 _);have hi8:Hid (HR w w2.heap.size #[.slice Aa nx qa',.slice none 0 0,.string x2.d,.string ⟨#[]⟩] 46 (w7.setCell ⟨w2.heap.size,0,none⟩ (.slice Aa nx qa'))):=lH (hr_set hi6.out 0 _);have hr8:Hid (HR w w.heap.size #[.slice none 0 0,.slice none 0 0,.string ⟨#[]⟩,.string ⟨#[]⟩] 46 (w7.setCell ⟨w2.heap.size,0,none⟩ (.slice Aa nx qa'))):=lH (hr_low hr6.out hi6.out (by omega) _ _);have HS8:=lH (since_cell HS6.out (Nat.le_of_lt hwl) 0 (.slice Aa nx qa'));have HVA8:Hid (IntsS (w7.setCell ⟨w2.heap.size,0,none⟩ (.slice Aa nx qa')) (.slice Aa nx qa') xs):=lH (ints_set hi6.out (i4_ints _ _ _ _ _ _ _ _) 0 _ hva);replace p0:=(CP1.out.since H8.out).cell;replace na:=(CNB.out.since H8.out).cell;clear h7 hva hnx;go_wp2_with fail;generalize w7.setCell ⟨w2.heap.size,0,none⟩ (.slice Aa nx qa') = w8 at H8 hi8 hr8 HS8 HVA8 ⊢;clear k0 f0 p0 na HVA H56 hi6 hr6 HS6;refine (c4 w8).mono ?_;rintro _ w9 ⟨vb,rfl,hvb,h9⟩;obtain ⟨Ab,qb',eb,-,-⟩:=hvb.slice;subst eb;obtain ⟨ny,hny⟩:∃ n,n = ps.length:=⟨_,rfl⟩
 rw [<- hny] at hvb ⊢;replace HS8:=lH (HS8.out.step h9);replace hr8:=lH (hr8.out.step h9);replace hi8:=lH (hi8.out.step h9);replace H8:=lH (H8.out.step h9);replace HVA8:=lH (HVA8.out.since h9);have k1:w9.cell? ⟨w2.heap.size,1,none⟩ = some (.slice none 0 0):=hr_cell hi8.out 1 _ rfl;have f1:=hr_free hi8.out 1;have H10:Hid (Since w2 (w9.setCell ⟨w2.heap.size,1,none⟩ (.slice Ab ny qb'))):=lH (since_cell H8.out (Nat.le_refl _) 1 _);have hi10:Hid (HR w w2.heap.size #[.slice Aa nx qa',.slice Ab ny qb',.string x2.d,.string ⟨#[]⟩] 46 (w9.setCell ⟨w2.heap.size,1,none⟩ (.slice Ab ny qb'))):=lH (hr_set hi8.out 1 _);have hr10:Hid (HR w w.heap.size #[.slice none 0 0,.slice none 0 0,.string ⟨#[]⟩,.string ⟨#[]⟩] 46 (w9.setCell ⟨w2.heap.size,1,none⟩ (.slice Ab ny qb'))):=lH (hr_low hr8.out hi8.out (by omega) _ _);have HS10:=lH (since_cell HS8.out (Nat.le_of_lt hwl) 1 (.slice Ab ny qb'));have HVA10:Hid (IntsS (w9.setCell ⟨w2.heap.size,1,none⟩ (.slice Ab ny qb')) (.slice Aa nx qa') xs):=lH (ints_set hi8.out (i4_ints _ _ _ _ _ _ _ _) 1 _ HVA8.out);have HVB10:Hid (IntsS (w9.setCell ⟨w2.heap.size,1,none⟩ (.slice Ab ny qb')) (.slice Ab ny qb') ps):=lH (ints_set hi8.out (i4_ints _ _ _ _ _ _ _ _) 1 _ hvb);clear h9 hvb hny H8 hi8 hr8 HS8 HVA8;go_wp2_with fail;generalize w9.setCell ⟨w2.heap.size,1,none⟩ (.slice Ab ny qb') = w10 at H10 hi10 hr10 HS10 HVA10 HVB10 ⊢;clear k1 f1 HK;go_loopw [9] (fun i wr => ∃ n:Nat,n <= m /\ i = .int .i64 (n:Int) /\ Hid (HR w w2.heap.size #[.slice Aa nx qa',.slice Ab ny qb',.string x2.d,.string (Atm.catB (es.take n))] 46 wr) /\ Hid (HR w w.heap.size #[.slice none 0 0,.slice none 0 0,.string ⟨#[]⟩,.string ⟨#[]⟩] 46 wr) /\ Hid (IntsS wr (.slice Aa nx qa') xs) /\ Hid (IntsS wr (.slice Ab ny qb') ps) /\ Hid (Since w2 wr) /\ Hid (Since w wr)) (fun i _ => m - (intOf i).toNat)
 case atStart => exact ⟨0,Nat.zero_le _,rfl,hi10,hr10,HVA10,HVB10,H10,HS10⟩
 case round =>
   clear H10 hi10 hr10 HS10 HVA10 HVB10;obtain ⟨n,hn,rfl,hi10,hr10,HVA10,HVB10,H10,HS10⟩:=hrel;have k3:=(CK3.out.since H10.out).cell;have m6:=(CM6.out.since H10.out).cell
   by_cases hlt:n < m
   · obtain ⟨b3,o3,q3,e,-,-,l3,hc3⟩:=SlR.form HK3.out (by rw [<- HM.out]; omega);obtain ⟨rfl,-,rfl⟩:=Value.slice.inj e;obtain ⟨jn,hjn⟩:∃ y,x3.k[n]? = some y:=⟨_,List.getElem?_eq_getElem (by rw [<- HM.out]; exact hlt)⟩
     have kn:=(Cv.since (Cv.mk l3 (hc3 n (.int .i64 jn) (by rw [List.getElem?_map,hjn]; rfl))) H10.out).cell;obtain ⟨e9,he9⟩:∃ y,es[n]? = some y:=⟨_,List.getElem?_eq_getElem (by rw [HEL.out,<- HM.out]; exact hlt)⟩
     obtain ⟨G,E9,cS9,cE9⟩:=HCS.out n jn e9 hjn he9;have HT:=lH (HU.out.since H10.out);have HTK:=lH (catB_snoc es n e9 he9);have hl1:=catB_le es n;have hl2:=catB_le es (n + 1);rw [HTK.out,ByteArray.size_append] at hl2;obtain ⟨acc,hacc⟩:∃ a,a = Atm.catB (es.take n):=⟨_,rfl⟩
     rw [<- hacc] at hi10 HTK hl1 hl2;have hl3:acc.size + e9.size <= 9223372036854775807:=by have:=HJ.out; omega
     have i1:(0:Int) <= (n:Int):=by omega
     have i2:(n:Int) < (m:Int):=by omega
     have hm9:m <= 1000:=by rw [HM.out]; exact HEM.out
     clear e hjn he9 l3 hc3 hl1 hl2 hacc;go_wp2_with fail;refine (cS9 _ _ HT.out).mono ?_;rintro _ wa ⟨v4,rfl,t4,h4⟩;have T4:=lH t4;replace hi10:=lH (hi10.out.step h4);replace hr10:=lH (hr10.out.step h4);replace HVA10:=lH (HVA10.out.since h4);replace HVB10:=lH (HVB10.out.since h4);replace H10:=lH (H10.out.step h4);replace HS10:=lH (HS10.out.step h4);clear h4 t4 kn k3 m6 HT;go_wp2_with fail;refine cE9.calls0 T4.out ?_;intro wb h4;replace hi10:=lH (hi10.out.step h4);replace hr10:=lH (hr10.out.step h4);replace HVA10:=lH (HVA10.out.since h4);replace HVB10:=lH (HVB10.out.since h4);replace H10:=lH (H10.out.step h4);replace HS10:=lH (HS10.out.step h4);clear h4 T4;have k3c:wb.cell? ⟨w2.heap.size,3,none⟩ = some (.string acc):=hr_cell hi10.out 3 _ rfl;have f3:=hr_free hi10.out 3;have hi12:Hid (HR w w2.heap.size #[.slice Aa nx qa',.slice Ab ny qb',.string x2.d,.string (acc ++ e9)] 46 (wb.setCell ⟨w2.heap.size,3,none⟩ (.string (acc ++ e9)))):=lH (hr_set hi10.out 3 _);have hr12:Hid (HR w w.heap.size #[.slice none 0 0,.slice none 0 0,.string ⟨#[]⟩,.string ⟨#[]⟩] 46 (wb.setCell ⟨w2.heap.size,3,none⟩ (.string (acc ++ e9)))):=lH (hr_low hr10.out hi10.out (by omega) _ _);have HS12:=lH (since_cell HS10.out (Nat.le_of_lt hwl) 3 (.string (acc ++ e9)));have H12:=lH (since_cell H10.out (Nat.le_refl _) 3 (.string (acc ++ e9)));have HVA12:=lH (ints_set hi10.out (i4_ints _ _ _ _ _ _ _ _) 3 (.string (acc ++ e9)) HVA10.out);have HVB12:=lH (ints_set hi10.out (i4_ints _ _ _ _ _ _ _ _) 3 (.string (acc ++ e9)) HVB10.out);clear hi10 hr10 HS10 H10 HVA10 HVB10;go_wp2_with fail;generalize wb.setCell ⟨w2.heap.size,3,none⟩ (.string (acc ++ e9)) = wc at hi12 hr12 HS12 H12 HVA12 HVB12 ⊢;rw [<- HTK.out] at hi12;go_roundw
     case rel => exact ⟨n + 1,by omega,by go_num,hi12,hr12,HVA12,HVB12,H12,HS12⟩
     case measure => (simp [intOf] <;> omega)
   · obtain rfl:m = n:=by omega
     have ht:es.take m = es:=by rw [HM.out,<- HEL.out,List.take_length]
     rw [ht] at hi10;obtain ⟨acc,hacc⟩:∃ a,a = Atm.catB es:=⟨_,rfl⟩
     rw [<- hacc] at hi10 c5 hE;clear hacc ht;have l0:(wr).cell? ⟨w2.heap.size,0,none⟩ = some (.slice Aa nx qa'):=hr_cell hi10.out 0 _ rfl;have l1:(wr).cell? ⟨w2.heap.size,1,none⟩ = some (.slice Ab ny qb'):=hr_cell hi10.out 1 _ rfl;have l2:(wr).cell? ⟨w2.heap.size,2,none⟩ = some (.string x2.d):=hr_cell hi10.out 2 _ rfl;have l3:(wr).cell? ⟨w2.heap.size,3,none⟩ = some (.string acc):=hr_cell hi10.out 3 _ rfl;go_wp2_with fail;clear l0 l1 l2 l3 k3 m6;refine (c5 wr _ _ HVA10.out HVB10.out).mono ?_;rintro _ w11 ⟨rfl,h11⟩;replace HS10:=lH (HS10.out.step h11);replace hr10:=lH (hr10.out.step h11);replace hi10:=lH (hi10.out.step h11);replace HVA10:=lH (HVA10.out.since h11);replace HVB10:=lH (HVB10.out.since h11);clear h11;rcases hE with ⟨hE,hq⟩ | ⟨hE,hX,hq⟩ | ⟨hE,hX,hq⟩
     · subst hq;go_wp2_with (refine RwL.at_store (ty:=46) rfl ?_; refine wpList_store_row rfl 46 _ _ rfl w.heap.size #[.slice none 0 0,.slice none 0 0,.string ⟨#[]⟩,.string ⟨#[]⟩] (by rfl) (by rfl) _ _ hr10.out.row (i4_infoR _ _ _ _) rfl (i4_one _ _ _ _ _ _ _ _) ?_)
       exact bodyPost_ret (v:=.tuple #[.agg #[.slice none 0 0,.slice none 0 0,.string ⟨#[]⟩,.string ⟨#[]⟩],.int .i64 5]) (results_cell_tmp2 Tryz.results30 _ _ _ _ _ _ _ _ rfl rfl (setRow_heap _ _ _ _ _ _ hr10.out.row) Tryz.underlying46 rfl (i4_infoR _ _ _ _)) rfl ⟨_,_,rfl,IntsS.nil _,IntsS.nil _,below_setRow HS10.out (Nat.le_refl _) _⟩
     · subst hq;go_wp2_with (refine RwL.at_store (ty:=46) rfl ?_; refine wpList_store_row rfl 46 _ _ rfl w.heap.size #[.slice none 0 0,.slice none 0 0,.string ⟨#[]⟩,.string ⟨#[]⟩] (by rfl) (by rfl) _ _ hr10.out.row (i4_infoR _ _ _ _) rfl (i4_one _ _ _ _ _ _ _ _) ?_)
       exact bodyPost_ret (v:=.tuple #[.agg #[.slice none 0 0,.slice none 0 0,.string ⟨#[]⟩,.string ⟨#[]⟩],.int .i64 5]) (results_cell_tmp2 Tryz.results30 _ _ _ _ _ _ _ _ rfl rfl (setRow_heap _ _ _ _ _ _ hr10.out.row) Tryz.underlying46 rfl (i4_infoR _ _ _ _)) rfl ⟨_,_,rfl,IntsS.nil _,IntsS.nil _,below_setRow HS10.out (Nat.le_refl _) _⟩
     · subst hq;have l0:w11.cell? ⟨w2.heap.size,0,none⟩ = some (.slice Aa nx qa'):=hr_cell hi10.out 0 _ rfl;have l1:w11.cell? ⟨w2.heap.size,1,none⟩ = some (.slice Ab ny qb'):=hr_cell hi10.out 1 _ rfl;have l2:w11.cell? ⟨w2.heap.size,2,none⟩ = some (.string x2.d):=hr_cell hi10.out 2 _ rfl;have l3:w11.cell? ⟨w2.heap.size,3,none⟩ = some (.string acc):=hr_cell hi10.out 3 _ rfl;go_wp2_with (refine RwL.at_store (ty:=46) rfl ?_; refine wpList_store_row rfl 46 _ _ rfl w.heap.size #[.slice Aa nx qa',.slice Ab ny qb',.string x2.d,.string acc] (by rfl) (by rfl) _ _ hr10.out.row (i4_infoR _ _ _ _) rfl (i4_one _ _ _ _ _ _ _ _) ?_)
       exact bodyPost_ret (v:=.tuple #[.agg #[.slice Aa nx qa',.slice Ab ny qb',.string x2.d,.string acc],.int .i64 0]) (results_cell_tmp2 Tryz.results30 _ _ _ _ _ _ _ _ rfl rfl (setRow_heap _ _ _ _ _ _ hr10.out.row) Tryz.underlying46 rfl (i4_infoR _ _ _ _)) rfl ⟨_,_,rfl,ints_row hr10.out (i4_ints _ _ _ _ _ _ _ _) _ HVA10.out,ints_row hr10.out (i4_ints _ _ _ _ _ _ _ _) _ HVB10.out,since_row HS10.out (Nat.le_refl _) _⟩
end Pk
namespace Pk
open Tlv Tree Strs Rw
theorem join_le (nm:ByteArray) (pt:Nat) (pb key:ByteArray) (gs:List F):(join gs).enc.length <= (pkF nm pt pb key gs).enc.length:=by
 cases gs with
 | nil => exact Nat.zero_le _
 | cons g l =>
   obtain ⟨ks,e1,-⟩:=pk_parts nm pt pb key (g :: l);have hA:(F.cons 2 0 (join (g :: l)) .nil) ∈ parts ks:=by
     have e9:F.cons 0 16 (.prim 0 2 ⟨#[0]⟩ (.cons 0 16 (.prim 0 6 nm (.prim 0 pt pb .nil)) (.prim 0 4 key (atsF (g :: l))))) .nil = F.cons 0 16 ks .nil:=e1;injection e9 with _ _ e9
     rw [<- e9];exact List.mem_cons_of_mem _ (List.mem_cons_of_mem _ (List.mem_cons_of_mem _ (List.mem_cons_self ..)))
   have hea:=(part_cnt ks _ hA).2;have hek:ks.enc.length <= (F.cons 0 16 ks .nil).enc.length:=by
     show ks.enc.length <= (Head.encL 0 16 true ks.enc.length ++ ks.enc ++ []).length
     rw [List.length_append,List.length_append];omega
   have q3:(join (g :: l)).enc.length <= (F.cons 2 0 (join (g :: l)) .nil).enc.length:=by
     show (join (g :: l)).enc.length <= (Head.encL 2 0 true (join (g :: l)).enc.length ++ (join (g :: l)).enc ++ []).length
     rw [List.length_append,List.length_append];omega
   rw [e1];omega
theorem key_in (nm:ByteArray) (pt:Nat) (pb key:ByteArray) (gs:List F):key.size <= (pkF nm pt pb key gs).enc.length :=
 size_le _ 0 ⟨0,4,false,key,[]⟩ (List.mem_cons_of_mem _ (List.mem_cons_of_mem _ (List.mem_cons_of_mem _ (List.mem_cons_of_mem _ (List.mem_cons_of_mem _ (List.mem_cons_self ..))))))
structure IsB (s:ByteArray) (ys qs:List Int) (k2 a2:ByteArray):Prop where
 ok:pkOk ys qs k2 a2
 eq:bs (pkT ys qs k2 a2).enc = s
 kl:k2.size <= s.size
 al:a2.size <= s.size
theorem isb_of {s:ByteArray} (hs:s.size <= 65535) {nm:ByteArray} {pt:Nat} {pb key:ByteArray} {gs:List F} (hP:Pt nm pt pb gs) (ht:top rightB s = .ok (pkF nm pt pb key gs)):IsB s (Oid.decL nm.data.toList) (Oid.decL pb.data.toList) key (catF gs):=by
 obtain ⟨hI,he⟩:=top_is ht;have hl:(pkF nm pt pb key gs).enc.length = s.size:=by rw [he]; rfl
 have h1:=join_le nm pt pb key gs;have h2:=key_in nm pt pb key gs;obtain ⟨a1,a2⟩:=pk_again hP hI (by omega);refine ⟨a1, ?_,by omega, ?_⟩
 · rw [a2,he];exact ba_ext rfl
 · rw [cat_is,<- join_enc,size_bs];omega
end Pk
end Go.Proofs.YtpanhhjkecebkaaGreat
namespace Go.Proofs.YtpanhhjkecebkaaGreat
open Go.RowKit Go.Sort
namespace Atf
open Att Rw Atm Tlv Setof
end Atf
end Go.Proofs.YtpanhhjkecebkaaGreat
namespace Go.Proofs.YtpanhhjkecebkaaGreat
open Go.RowKit
namespace Atf
open Att Rw Atm Tlv Setof
end Atf
namespace Atf
open Att Rw Atm Tlv Setof
end Atf
namespace Atf
open Att Rw Atm Tlv Setof
def bB:ByteArray:=⟨#[98]⟩
def bA:ByteArray:=⟨#[97]⟩
def aw2:List A2:=[(5,bA),(7,bB)]
end Atf
namespace Atf
open Att Rw Atm Tlv Setof
theorem rpieces_u (s:ByteArray) (hs:s.size <= 65535) (c p:Nat) (L:List ByteArray) (hv:pcsV s = (c,p,L)):PcR 48 s (c:Int) (p:Int) L:=by
 intro w;unfold pcsV at hv;rw [if_neg (by omega)] at hv;refine (rpieces_t s hs _ rfl w).mono ?_;intro e w' h;unfold PPost at h;cases hq:pcsF s (s.size + 1) 0 with
 | error x =>
   obtain ⟨c',p'⟩:=x;rw [hq] at h hv;dsimp only at h hv;cases hv;exact ⟨_,h.1,StrsS.nil _,h.2⟩
 | ok l =>
   rw [hq] at h hv;dsimp only at h hv;cases hv;exact h
end Atf
namespace Pk
open Tlv Tree Strs Rw
theorem rdec_tn (x:ByteArray):(okx x = true /\ RDecT x 0 0 ((gOf x).flat 0)) ∨ (okx x = false /\ ∃ C P:Int,(C != 0) = true /\ RDecT x C P []):=by
 unfold okx gOf;cases ht:top rightB x with
 | error z =>
   obtain ⟨c,q⟩:=z;have hc:=(top_err_ok ht).1;exact Or.inr ⟨rfl,(c:Int),(q:Int),bne_iff_ne.2 (by omega),fun w => rdec_n x c q _ _ (show topV x = (c,q,[],[]) by unfold topV; rw [ht]) w⟩
 | ok g => exact Or.inl ⟨rfl,fun w => rdec_n x 0 0 _ _ (show topV x = (0,0,g.flat 0,g.spans 0) by unfold topV; rw [ht]) w⟩
theorem rpar_e (ps:List Int) (h:ps.length = 0 ∨ Oid.Ok ps):RParE ps (parT ps) (parB ps):=by
 unfold RParE parT parB
 by_cases h0:ps.length = 0
 · rw [if_pos h0,if_pos h0]; exact Or.inl ⟨h0,rfl,rfl⟩
 · rw [if_neg h0,if_neg h0];have hk:Oid.Ok ps:=by rcases h with h | h; exact absurd h h0; exact h
   exact Or.inr ⟨by omega,rfl,fun w v hv => Oid.rencode_yes w v ps hv hk _ rfl⟩
theorem renc_part {p:F} (hI:IsT rightB (p.flat 0) p) (hl:p.enc.length <= 65000):RdT 58 (p.flat 0) (fun v => #[v]) (.tuple #[.string (bs p.enc),.int .i64 0]):=by
 have hc:=hI.len;rw [F.flat_len] at hc;have c4:=rrig_rd _ (small_of (g:=p) (by omega) (by omega));rw [is_right hI] at c4;exact Tree.renc_yes _ _ c4 (bytes_root _ _ _ (wr_of hI) hl hI.len)
theorem rpencode_rd (xs ps:List Int) (key attrs:ByteArray) (hk:key.size <= 1000) (ha:attrs.size <= 1000):RdP 28 xs ps key attrs (pencW xs ps key attrs):=by
 by_cases h1:Oid.Ok xs
 case neg =>
   rw [pencW_no fun h => h1 h.1];exact renc_no _ _ _ _ _ (rmade_1 xs ps key attrs ⟨#[]⟩ fun w v hv => (Oid.rencode_no w v xs hv h1).mono fun _ _ ⟨he,hw⟩ => ⟨he,by subst hw; exact Since.refl _⟩)
 have c1:∀ w v,IntsS w v xs -> Calls Tryz.prog 55 #[v] w fun e w' => e = .returned (.tuple #[.string (bs (Oid.enc xs)),.bool true]) /\ Since w w':=fun w v hv => Oid.rencode_yes w v xs hv h1 _ rfl
 by_cases h2:ps.length = 0 ∨ Oid.Ok ps
 case neg =>
   rw [pencW_no fun h => h2 h.2.1];simp only [not_or] at h2;exact renc_no _ _ _ _ _ (rmade_2 xs ps key attrs _ ⟨#[]⟩ (by omega) c1 fun w v hv => (Oid.rencode_no w v ps hv h2.2).mono fun _ _ ⟨he,hw⟩ => ⟨he,by subst hw; exact Since.refl _⟩)
 obtain ⟨⟨c,p,L⟩,hv⟩:∃ y,pcsV attrs = y:=⟨_,rfl⟩
 have d1:=Atf.rpieces_u attrs (by omega) c p L hv;have hG:atsG attrs = L.map gOf:=by unfold atsG; rw [hv]
 by_cases hc:c = 0
 case neg =>
   rw [pencW_no fun h => by have h9:=h.2.2.1.1; rw [hv] at h9; exact hc h9];exact renc_no _ _ _ _ _ (rmade_3 xs ps key attrs _ _ _ c1 (rpar_e ps h2) _ _ (bne_iff_ne.2 (by omega)) L d1)
 subst hc;have hl:=pcs_cnt attrs (by omega) p L hv
 by_cases h3:atsOk attrs
 case neg =>
   rw [pencW_no fun h => h3 h.2.2.1];have hb:∃ x ∈ L,okx x = false:=by
     rcases Classical.em (∃ x ∈ L,okx x = false) with h4 | h4
     · exact h4
     · refine absurd ⟨by rw [hv],fun x hx => ?_⟩ h3;rw [hv] at hx;cases h5:okx x with
       | true => rfl
       | false => exact absurd ⟨x,hx,h5⟩ h4
   exact renc_no _ _ _ _ _ (rmade_4 xs ps key attrs _ _ _ c1 (rpar_e ps h2) _ _ rfl L (by omega) d1 (fun x _ => rdec_tn x) hb)
 obtain ⟨g1,g2,g3⟩:=ats_is (by omega) h3;have hok:∀ x ∈ L,okx x = true:=by have h9:=h3.2; rw [hv] at h9; exact h9
 have hd:∀ x ∈ L,RDecT x 0 0 ((gOf x).flat 0):=fun x hx => by
   rcases rdec_tn x with ⟨-,h9⟩ | ⟨h9,-⟩
   · exact h9
   · rw [hok x hx] at h9; cases h9
 have hl2:=pk_len (bs (Oid.enc xs)) (parT ps) (parB ps) key (atsG attrs);have s1:=oid_size xs h1;have s2:=par_size ps h2;have s3:(join (atsG attrs)).enc.length = attrs.size:=by rw [g2]; rfl
 have hcn:=cnt_le (pkT xs ps key attrs);have hlen:((pkT xs ps key attrs).flat 0).length = (pkT xs ps key attrs).cnt:=F.flat_len _ _;have hlT:(pkT xs ps key attrs).enc.length <= 2500:=by unfold pkT; omega
 have hsm:Small ((pkT xs ps key attrs).flat 0):=small_of (by omega) (by omega);have c4:=rrig_rd _ hsm;have hm:∀ q,RdT 104 ((pkT xs ps key attrs).flat 0) (fun v => #[v]) (.bool q) -> RdM 67 xs ps key attrs ((pkT xs ps key attrs).flat 0) q:=fun q cR => by
   unfold pkT at cR ⊢;rw [hG] at cR g1 g3 ⊢;exact rmade_5 xs ps key attrs _ _ _ c1 (rpar_e ps h2) _ _ rfl L (by omega) d1 hd ⟨fun g hg => (g1 g hg).1,by omega⟩ q cR
 have hmm:=hm _ c4;cases hr:rigB rightB ((pkT xs ps key attrs).flat 0) with
 | false =>
   rw [pencW_no fun h => by have h9:=h.2.2.2; rw [hr] at h9; cases h9];rw [hr] at hmm;exact renc_no _ _ _ _ _ hmm
 | true =>
   rw [pencW_yes ⟨h1,h2,h3,hr⟩];rw [hr] at hmm;exact renc_yes _ _ _ _ _ hmm _ _ (renc_part (pk_is hr) (by omega))
def dat:F -> ByteArray
 | .prim _ _ d _ => d
 | _ => ⟨#[]⟩
def kidF:F -> F
 | .cons _ _ ks _ => ks
 | _ => .nil
structure InT (N:List Nd) (p:F) (a:Nat) (x:Nd):Prop where
 at_:N[a]? = some x
 d:x.d = dat p
 k:x.k = (kidF p).tops (a + 1)
 in_:At N (a + 1) ((kidF p).flat (a + 1))
 own:At N a (p.flat a)
 ok:okF rightB (kidF p)
 okp:okF rightB p
 one:single p
theorem part_in {N:List Nd} {ks:F} {i j:Nat} {p:F} (hok:okF rightB ks) (hA:At N i (ks.flat i)) (hp:(parts ks)[j]? = some p):∃ a x,(ks.tops i)[j]? = some ((a:Nat):Int) /\ InT N p a x /\ p.deep <= ks.deep:=by
 obtain ⟨s1,o1,d1,a,ha,h1⟩:=parts_at rightB ks i j p hok hp;have hA2:=h1 N hA;cases p with
 | nil => exact absurd s1 (by intro h; exact h)
 | prim c t d nx =>
   cases (show nx = .nil from s1);exact ⟨a,⟨c,t,false,d,[]⟩,ha,⟨hA2 0 _ rfl,rfl,rfl,(fun j x h => by cases h),hA2,trivial,o1,rfl⟩,d1⟩
 | cons c t qs nx =>
   cases (show nx = .nil from s1);refine ⟨a,⟨c,t,true,⟨#[]⟩,qs.tops (a + 1)⟩,ha,⟨hA2 0 _ rfl,rfl,rfl, ?_,hA2,o1.2.2.2.1,o1,rfl⟩,d1⟩;have h9:At N a ((⟨c,t,true,⟨#[]⟩,qs.tops (a + 1)⟩:Nd) :: (qs.flat (a + 1) ++ [])):=hA2;rw [List.append_nil] at h9;exact At.tail h9
theorem kid_enc (p:F):(kidF p).enc.length <= p.enc.length /\ (kidF p).deep <= p.deep:=by
 cases p with
 | nil => exact ⟨Nat.zero_le _,Nat.le_refl _⟩
 | prim c t d nx => exact ⟨Nat.zero_le _,Nat.zero_le _⟩
 | cons c t ks nx =>
   refine ⟨?_, ?_⟩
   · show ks.enc.length <= (Head.encL c t true ks.enc.length ++ ks.enc ++ nx.enc).length
     rw [List.length_append,List.length_append];omega
   · show ks.deep <= max (ks.deep + 1) nx.deep
     omega
noncomputable def rR (s:ByteArray) (xs ps:List Int) (key a:ByteArray):List Int × List Int × ByteArray × ByteArray × Int:=open Classical in if pencV xs ps key a = (s,0) then (xs,ps,key,a,0) else ([],[],⟨#[]⟩,⟨#[]⟩,5)
theorem hE_of (s:ByteArray) (xs ps:List Int) (key a:ByteArray):((((pencV xs ps key a).2 != 0) = true /\ rR s xs ps key a = ([],[],⟨#[]⟩,⟨#[]⟩,5)) ∨ (((pencV xs ps key a).2 != 0) = false /\ ((pencV xs ps key a).1.toList == s.toList) = false /\ rR s xs ps key a = ([],[],⟨#[]⟩,⟨#[]⟩,5)) ∨ (((pencV xs ps key a).2 != 0) = false /\ ((pencV xs ps key a).1.toList == s.toList) = true /\ rR s xs ps key a = (xs,ps,key,a,0))):=by
 unfold rR;obtain ⟨⟨X,E⟩,hp⟩:∃ y,pencV xs ps key a = y:=⟨_,rfl⟩
 rw [hp]
 by_cases hE:E = 0
 · subst hE
   by_cases hX:X = s
   · subst hX;exact Or.inr (Or.inr ⟨rfl,beq_self_eq_true _,if_pos rfl⟩)
   · exact Or.inr (Or.inl ⟨rfl,str_ne_f hX,if_neg fun h => hX (Prod.mk.inj h).1⟩)
 · exact Or.inl ⟨bne_iff_ne.2 hE,if_neg fun h => hE (Prod.mk.inj h).2⟩
theorem pk_sound {s:ByteArray} {xs ps:List Int} {key a:ByteArray} {g:F} (hs:s.size <= 65535) (ha:a.size <= 65535) (ht:top rightB s = .ok g) (h:pencV xs ps key a = (s,0)):IsPk g:=by
 by_cases hk:pkOk xs ps key a
 · have h2:=h;unfold pencV at h2;rw [if_pos hk] at h2;have h3:=(Prod.mk.inj h2).1;obtain ⟨p1,p2⟩:=pk_written ha hk;have h4:=top_enc p2 (by rw [<- size_bs,h3]; exact hs);rw [h3,ht] at h4;cases h4;exact ⟨_,_,_,_,_,rfl,p1⟩
 · unfold pencV at h;rw [if_neg hk] at h;exact absurd (Prod.mk.inj h).2 (by decide)
end Pk
end Go.Proofs.YtpanhhjkecebkaaGreat
