import Derived.Test.YtddlaafpianjbaaGreatDoorBk46
set_option maxRecDepth 100000
set_option maxHeartbeats 8000000
namespace Go.Proofs.YtddlaafpianjbaaGreatDoor
open Go.RowKit
namespace Block
open Att
abbrev CutG (s l u m v e:ByteArray) (L:List A2) (P C G:ByteArray):Prop:=Frame.CutR s l u m v e L P C G
section
variable (kek b:ByteArray)
theorem rim_key (t1:((kek.size:Int) != 16) = true) (t2:((kek.size:Int) != 24) = true) (t3:((kek.size:Int) != 32) = true):KMk K3 11 #[.string kek,.string b] (noR 2):=by
 intro w hT
 have hr:=lH (show HR w w.heap.size Z7 26 (w.alloc (.cells Z7 26)) from ⟨heap_alloc_new w _⟩)
 have HS:=lH (Since.alloc (Since.refl w) (.cells Z7 26))
 have HT:=lH (Kp.keep hT (Since.alloc (Since.refl w) (.cells Z7 26)))
 unfold Z7 at hr HS HT
 clear hT
 go_enter Tryz.func11,Tryz.ntmps11
 have r1:=hr.out.row
 go_wp2_with (refine wpList_store_row rfl 26 _ _ rfl w.heap.size Z7 (by rfl) (by rfl) _ _ r1 z7_info rfl z7_one ?_)
 exact bodyPost_ret (v:=noR 2) (results_c_t_t Tryz.results11 _ _ _ _ _ _ _ _ _ rfl rfl rfl (setRow_heap _ _ _ _ _ _ r1) Tryz.underlying26 rfl z7_info) rfl ⟨rfl,below_setRow HS.out (Nat.le_refl _) _⟩
theorem rim_cut (hk:Aes.keyOk kek) (E:Int) (hE2:(E != 0) = true) (c1:Mak 37 #[.string b] (.tuple #[.agg Frame.Z9,.int .i64 E])):KMk K3 11 #[.string kek,.string b] (noR E):=by
 intro w hT
 obtain ⟨a1,a2,a3,⟨t1,t2,t3⟩,hq⟩:=key_yes kek hk
 clear hk
 rcases hq with rfl | ⟨rfl,rfl⟩ | ⟨rfl,rfl,rfl⟩
 all_goals
   have hr:=lH (show HR w w.heap.size Z7 26 (w.alloc (.cells Z7 26)) from ⟨heap_alloc_new w _⟩)
   have HS:=lH (Since.alloc (Since.refl w) (.cells Z7 26))
   have HT:=lH (Kp.keep hT (Since.alloc (Since.refl w) (.cells Z7 26)))
   unfold Z7 at hr HS HT
   clear hT
   go_enter Tryz.func11,Tryz.ntmps11
   go_wp2_with fail
   refine c1.calls0 ?_
   intro w1 h1
   replace hr:=lH (hr_old (hr.out.step h1) (.cells Frame.Z9 59))
   replace HS:=lH ((HS.out.step h1).alloc (.cells Frame.Z9 59))
   unfold Frame.Z9 at hr HS ⊢
   clear h1 HT
   have r1:=hr.out.row
   go_wp2_with (refine wpList_store_row rfl 26 _ _ rfl w.heap.size Z7 (by rfl) (by rfl) _ _ r1 z7_info rfl z7_one ?_)
   exact bodyPost_ret (v:=noR E) (results_c_t_t Tryz.results11 _ _ _ _ _ _ _ _ _ rfl rfl rfl (setRow_heap _ _ _ _ _ _ r1) Tryz.underlying26 rfl z7_info) rfl ⟨rfl,below_setRow HS.out (Nat.le_refl _) _⟩
theorem rim_open (hk:Aes.keyOk kek) (l u m v e:ByteArray) (L:List A2) (P C G:ByteArray) (c1:CutG b l u m v e L P C G) (Q:ByteArray) (E:Int) (hE2:(E != 0) = true) (c2:Mak 38 #[.string kek,.string P,.string C,.string G] (.tuple #[.string Q,.int .i64 E])):KMk K3 11 #[.string kek,.string b] (noR E):=by
 intro w hT
 obtain ⟨a1,a2,a3,⟨t1,t2,t3⟩,hq⟩:=key_yes kek hk
 clear hk
 rcases hq with rfl | ⟨rfl,rfl⟩ | ⟨rfl,rfl,rfl⟩
 all_goals
   have hr:=lH (show HR w w.heap.size Z7 26 (w.alloc (.cells Z7 26)) from ⟨heap_alloc_new w _⟩)
   have HS:=lH (Since.alloc (Since.refl w) (.cells Z7 26))
   have HT:=lH (Kp.keep hT (Since.alloc (Since.refl w) (.cells Z7 26)))
   unfold Z7 at hr HS HT
   clear hT
   go_enter Tryz.func11,Tryz.ntmps11
   go_wp2_with fail
   refine (c1 _).mono ?_
   rintro x w1 ⟨a,rfl,ha,h1,hf⟩
   have hlt:w.heap.size < (w.alloc (.cells Z7 26)).heap.size:=by simp
   have hn1:∀ bb,a.blockOf = some bb -> bb ≠ w.heap.size:=Frame.fresh_ne hf hlt
   have HN1:=lH hn1
   obtain ⟨A,d,hav,_⟩:=ha.slice
   subst hav
   have HA:=lH (ha.since ((Since.refl w1).alloc (.cells (Frame.C9 l u m v e (.slice A L.length d) P C G) 59)))
   replace hr:=lH (hr_old (hr.out.step h1) (.cells (Frame.C9 l u m v e (.slice A L.length d) P C G) 59))
   replace HS:=lH ((HS.out.step h1).alloc (.cells (Frame.C9 l u m v e (.slice A L.length d) P C G) 59))
   have hb:=lH (hb_new w1 K3 (Kp.keep HT.out h1) (Frame.C9 l u m v e (.slice A L.length d) P C G) 59)
   clear ha h1 hf hlt hn1 HT
   unfold Frame.C9 at hr HS hb HA ⊢
   obtain ⟨n0,n1,n2,n3,n4,n5,n6,n7,n8⟩:=Frame.hb9 hb.out
   go_wp2_with fail
   refine c2.calls0 ?_
   intro w3 h3
   replace hr:=lH (hr.out.step h3)
   replace hb:=lH (hb.out.step h3)
   replace HS:=lH (HS.out.step h3)
   replace HA:=lH (HA.out.since h3)
   clear h3 n0 n1 n2 n3 n4 n5 n6 n7 n8
   have r1:=hr.out.row
   go_wp2_with (refine wpList_store_row rfl 26 _ _ rfl w.heap.size Z7 (by rfl) (by rfl) _ _ r1 z7_info rfl z7_one ?_)
   exact bodyPost_ret (v:=noR E) (results_c_t_t Tryz.results11 _ _ _ _ _ _ _ _ _ rfl rfl rfl (setRow_heap _ _ _ _ _ _ r1) Tryz.underlying26 rfl z7_info) rfl ⟨rfl,below_setRow HS.out (Nat.le_refl _) _⟩
theorem rim_take (hk:Aes.keyOk kek) (l u m v e:ByteArray) (L:List A2) (P C G:ByteArray) (c1:CutG b l u m v e L P C G) (Q:ByteArray) (c2:Mak 38 #[.string kek,.string P,.string C,.string G] (.tuple #[.string Q,.int .i64 0])) (K:Int) (k pads:ByteArray) (E:Int) (hE2:(E != 0) = true)
   (c3:Mak 39 #[.string l,.string Q] (.tuple #[.int .i64 K,.string k,.string pads,.int .i64 E])):KMk K3 11 #[.string kek,.string b] (noR E):=by
 intro w hT
 obtain ⟨a1,a2,a3,⟨t1,t2,t3⟩,hq⟩:=key_yes kek hk
 clear hk
 rcases hq with rfl | ⟨rfl,rfl⟩ | ⟨rfl,rfl,rfl⟩
 all_goals
   have hr:=lH (show HR w w.heap.size Z7 26 (w.alloc (.cells Z7 26)) from ⟨heap_alloc_new w _⟩)
   have HS:=lH (Since.alloc (Since.refl w) (.cells Z7 26))
   have HT:=lH (Kp.keep hT (Since.alloc (Since.refl w) (.cells Z7 26)))
   unfold Z7 at hr HS HT
   clear hT
   go_enter Tryz.func11,Tryz.ntmps11
   go_wp2_with fail
   refine (c1 _).mono ?_
   rintro x w1 ⟨a,rfl,ha,h1,hf⟩
   have hlt:w.heap.size < (w.alloc (.cells Z7 26)).heap.size:=by simp
   have hn1:∀ bb,a.blockOf = some bb -> bb ≠ w.heap.size:=Frame.fresh_ne hf hlt
   have HN1:=lH hn1
   obtain ⟨A,d,hav,_⟩:=ha.slice
   subst hav
   have HA:=lH (ha.since ((Since.refl w1).alloc (.cells (Frame.C9 l u m v e (.slice A L.length d) P C G) 59)))
   replace hr:=lH (hr_old (hr.out.step h1) (.cells (Frame.C9 l u m v e (.slice A L.length d) P C G) 59))
   replace HS:=lH ((HS.out.step h1).alloc (.cells (Frame.C9 l u m v e (.slice A L.length d) P C G) 59))
   have hb:=lH (hb_new w1 K3 (Kp.keep HT.out h1) (Frame.C9 l u m v e (.slice A L.length d) P C G) 59)
   clear ha h1 hf hlt hn1 HT
   unfold Frame.C9 at hr HS hb HA ⊢
   obtain ⟨n0,n1,n2,n3,n4,n5,n6,n7,n8⟩:=Frame.hb9 hb.out
   go_wp2_with fail
   refine c2.calls0 ?_
   intro w3 h3
   replace hr:=lH (hr.out.step h3)
   replace hb:=lH (hb.out.step h3)
   replace HS:=lH (HS.out.step h3)
   replace HA:=lH (HA.out.since h3)
   clear h3 n0 n1 n2 n3 n4 n5 n6 n7 n8
   obtain ⟨n0,n1,n2,n3,n4,n5,n6,n7,n8⟩:=Frame.hb9 hb.out
   go_wp2_with fail
   refine c3.calls0 ?_
   intro w5 h5
   replace hr:=lH (hr.out.step h5)
   replace hb:=lH (hb.out.step h5)
   replace HS:=lH (HS.out.step h5)
   replace HA:=lH (HA.out.since h5)
   clear h5 n0 n1 n2 n3 n4 n5 n6 n7 n8
   have r1:=hr.out.row
   go_wp2_with (refine wpList_store_row rfl 26 _ _ rfl w.heap.size Z7 (by rfl) (by rfl) _ _ r1 z7_info rfl z7_one ?_)
   exact bodyPost_ret (v:=noR E) (results_c_t_t Tryz.results11 _ _ _ _ _ _ _ _ _ rfl rfl rfl (setRow_heap _ _ _ _ _ _ r1) Tryz.underlying26 rfl z7_info) rfl ⟨rfl,below_setRow HS.out (Nat.le_refl _) _⟩
theorem rim_ok (hk:Aes.keyOk kek) (l u m v e:ByteArray) (L:List A2) (P C G:ByteArray) (c1:CutG b l u m v e L P C G) (Q:ByteArray) (c2:Mak 38 #[.string kek,.string P,.string C,.string G] (.tuple #[.string Q,.int .i64 0])) (K:Int) (k pads:ByteArray) (E:Int) (hE2:(E != 0) = false)
   (c3:Mak 39 #[.string l,.string Q] (.tuple #[.int .i64 K,.string k,.string pads,.int .i64 E])):ImO 11 kek b K k u m v e L pads:=by
 intro w hT
 obtain ⟨a1,a2,a3,⟨t1,t2,t3⟩,hq⟩:=key_yes kek hk
 clear hk
 rcases hq with rfl | ⟨rfl,rfl⟩ | ⟨rfl,rfl,rfl⟩
 all_goals
   have hr:=lH (show HR w w.heap.size Z7 26 (w.alloc (.cells Z7 26)) from ⟨heap_alloc_new w _⟩)
   have HS:=lH (Since.alloc (Since.refl w) (.cells Z7 26))
   have HT:=lH (Kp.keep hT (Since.alloc (Since.refl w) (.cells Z7 26)))
   unfold Z7 at hr HS HT
   clear hT
   go_enter Tryz.func11,Tryz.ntmps11
   go_wp2_with fail
   refine (c1 _).mono ?_
   rintro x w1 ⟨a,rfl,ha,h1,hf⟩
   have hlt:w.heap.size < (w.alloc (.cells Z7 26)).heap.size:=by simp
   have hn1:∀ bb,a.blockOf = some bb -> bb ≠ w.heap.size:=Frame.fresh_ne hf hlt
   have HN1:=lH hn1
   obtain ⟨A,d,hav,_⟩:=ha.slice
   subst hav
   have HA:=lH (ha.since ((Since.refl w1).alloc (.cells (Frame.C9 l u m v e (.slice A L.length d) P C G) 59)))
   replace hr:=lH (hr_old (hr.out.step h1) (.cells (Frame.C9 l u m v e (.slice A L.length d) P C G) 59))
   replace HS:=lH ((HS.out.step h1).alloc (.cells (Frame.C9 l u m v e (.slice A L.length d) P C G) 59))
   have hb:=lH (hb_new w1 K3 (Kp.keep HT.out h1) (Frame.C9 l u m v e (.slice A L.length d) P C G) 59)
   clear ha h1 hf hlt hn1 HT
   unfold Frame.C9 at hr HS hb HA ⊢
   obtain ⟨n0,n1,n2,n3,n4,n5,n6,n7,n8⟩:=Frame.hb9 hb.out
   go_wp2_with fail
   refine c2.calls0 ?_
   intro w3 h3
   replace hr:=lH (hr.out.step h3)
   replace hb:=lH (hb.out.step h3)
   replace HS:=lH (HS.out.step h3)
   replace HA:=lH (HA.out.since h3)
   clear h3 n0 n1 n2 n3 n4 n5 n6 n7 n8
   obtain ⟨n0,n1,n2,n3,n4,n5,n6,n7,n8⟩:=Frame.hb9 hb.out
   go_wp2_with fail
   refine c3.calls0 ?_
   intro w5 h5
   replace hr:=lH (hr.out.step h5)
   replace hb:=lH (hb.out.step h5)
   replace HS:=lH (HS.out.step h5)
   replace HA:=lH (HA.out.since h5)
   clear h5 n0 n1 n2 n3 n4 n5 n6 n7 n8
   obtain ⟨n0,n1,n2,n3,n4,n5,n6,n7,n8⟩:=Frame.hb9 hb.out
   have r1:=hr.out.row
   go_wp2_with (refine wpList_store_row rfl 26 _ _ rfl w.heap.size (R7 K k u m v e (.slice A L.length d)) (by rfl) (by rfl) _ _ r1 (r7_info _ _ _ _ _ _ _) rfl (r7_one _ _ _ _ _ _ _ _ _) ?_)
   exact bodyPost_ret (v:=.tuple #[.agg (R7 K k u m v e (.slice A L.length d)),.string pads,.int .i64 0]) (results_c_t_t Tryz.results11 _ _ _ _ _ _ _ _ _ rfl rfl rfl (setRow_heap _ _ _ _ _ _ r1) Tryz.underlying26 rfl (r7_info _ _ _ _ _ _ _)) rfl ⟨_,rfl,Frame.far_rows HA.out w.heap.size HN1.out _,below_setRow HS.out (Nat.le_refl _) _⟩
end
theorem take_any (l s:ByteArray) (hs:s.size <= 100000) :
   ∃ k x p E,KMk Kind.Tab2 36 #[.string l,.string s] (.tuple #[.int .i64 k,.string x,.string p,.int .i64 E]) /\ Mak 39 #[.string l,.string s] (.tuple #[.int .i64 k,.string x,.string p,.int .i64 E]) /\ Load.takeV l s k x p E:=by
 by_cases h:s.size <= 300
 · exact Load.take_both l s h
 · have c1:=Load.total_k l _ rfl
   have r1:=Load.rtotal_ret l _ rfl
   have ht:Load.tot (Kind.mostN l.data.toList) <= 100:=by
     unfold Load.tot
     split
     · omega
     · split
       · omega
       · split <;> omega
   have hne:((s.size:Int) != Load.tot (Kind.mostN l.data.toList)) = true:=by rw [bne_iff_ne]; omega
   refine ⟨_,_,_,_,Load.take_len l s _ (by omega) hne c1, ?_,Or.inr ⟨rfl,rfl,rfl,rfl⟩⟩
   by_cases h2:Load.tot (Kind.mostN l.data.toList) = 0
   · rw [h2] at r1; exact Load.rtake_none l s r1
   · exact Load.rtake_len l s _ (beq_eq_false_iff_ne.2 h2) hne r1
def ImV (kek b:ByteArray):Prop :=
 (∃ E:Int,(E != 0) = true /\ KMk K3 10 #[.string kek,.string b] (noR E) /\ KMk K3 11 #[.string kek,.string b] (noR E)) ∨
 ∃ (K:Int) (k pads:ByteArray),ImO 10 kek b K k (b.extract 5 7) (b.extract 8 9) (b.extract 9 11) (b.extract 11 12) (Templ.fL (Frame.cutO b)) pads /\ ImO 11 kek b K k (b.extract 5 7) (b.extract 8 9) (b.extract 9 11) (b.extract 11 12) (Templ.fL (Frame.cutO b)) pads /\
   Aes.keyOk kek /\ Frame.cutE b = 0 /\ Opn.opened kek (b.extract 0 (Frame.cutD b)) (Frame.selC (Frame.cutR b)) (Frame.selT (Frame.cutR b)) = (Load.PLD k pads,0) /\ Kind.chkE (Kind.rowOf K) k.data.toList = 0 /\ (pads.size:Int) = Load.padsI (Kind.rowOf K) /\ LT K = b.extract 7 8
theorem import_b (kek b:ByteArray) (hb:b.size <= 1500) (hk:kek.size <= 100):ImV kek b:=by
 by_cases h0:Aes.keyOk kek
 · have d0:=Sched.rounds_yes kek.size h0 _ rfl
   have h01:(((kek.size / 4 + 6:Nat):Int) == 0) = false:=by rw [beq_eq_false_iff_ne]; omega
   by_cases h1:Frame.cutE b = 0
   · obtain ⟨z1,z2,z3,z4⟩:=Frame.cut_sizes b h1
     have p1:(b.extract 0 (Frame.cutD b)).size <= 2000:=by rw [ByteArray.size_extract]; omega
     have p2:(Frame.selC (Frame.cutR b)).size <= 3000:=by
       have hl:=Templ.unS_le (Frame.cutR b)
       have hl2:(Frame.cutR b).length = (b.extract (Frame.cutD b) b.size).size:=rfl
       rw [ByteArray.size_extract] at hl2
       unfold Frame.selC
       split
       · rw [ByteArray.size_extract]; omega
       · decide
     have p3:(Frame.selT (Frame.cutR b)).size <= 100:=by
       unfold Frame.selT
       split
       · rw [ByteArray.size_extract]; omega
       · decide
     have c1:CutF b _ _ _ _ _ _ _ _ _:=Frame.cut_good b h1
     have r1:=Frame.rcut_good b h1
     have c2:=Opn.open_mak kek (b.extract 0 (Frame.cutD b)) (Frame.selC (Frame.cutR b)) (Frame.selT (Frame.cutR b)) hk (by omega) (by omega) p3
     have r2:=Opn.ropen_mak kek (b.extract 0 (Frame.cutD b)) (Frame.selC (Frame.cutR b)) (Frame.selT (Frame.cutR b)) hk (by omega) (by omega) p3
     obtain ⟨⟨Q,E⟩,hq⟩:∃ x,Opn.opened kek (b.extract 0 (Frame.cutD b)) (Frame.selC (Frame.cutR b)) (Frame.selT (Frame.cutR b)) = x:=⟨_,rfl⟩
     rw [hq] at c2 r2
     by_cases h2:E = 0
     · subst h2
       have hQ:Q.size <= 100000:=by
         unfold Opn.opened at hq
         split at hq
         · cases hq
         · split at hq
           · cases hq
           · rename_i hci
             split at hq
             · cases hq
               rw [Opn.plain_size _ _ _ (by simpa using hci)]; omega
             · cases hq
       obtain ⟨K,k,pads,F,c3,r3,hv⟩:=take_any (b.extract 7 8) Q hQ
       rcases hv with ⟨rfl,g1,g2,rfl,-,-,g3⟩ | ⟨g1,rfl,rfl,rfl⟩
       · exact .inr ⟨K,k,pads,im_ok kek b _ d0 h01 _ _ _ _ _ _ _ _ _ c1 _ c2 K k pads 0 rfl c3,rim_ok kek b h0 _ _ _ _ _ _ _ _ _ r1 _ r2 K k pads 0 rfl r3,h0,h1,hq,g1,g2,by unfold LT; rw [g3,bs_list]⟩
       · exact .inl ⟨F,g1,im_take kek b _ d0 h01 _ _ _ _ _ _ _ _ _ c1 _ c2 _ _ _ F (by rw [bne_iff_ne] at g1; exact beq_eq_false_iff_ne.2 g1) g1 c3,rim_take kek b h0 _ _ _ _ _ _ _ _ _ r1 _ r2 _ _ _ F g1 r3⟩
     · have g1:(E != 0) = true:=by rw [bne_iff_ne]; exact h2
       exact .inl ⟨E,g1,im_open kek b _ d0 h01 _ _ _ _ _ _ _ _ _ c1 _ E (beq_eq_false_iff_ne.2 h2) g1 c2,rim_open kek b h0 _ _ _ _ _ _ _ _ _ r1 _ E g1 r2⟩
   · have g1:(Frame.cutE b != 0) = true:=by rw [bne_iff_ne]; exact h1
     exact .inl ⟨_,g1,im_cut kek b _ d0 h01 _ (beq_eq_false_iff_ne.2 h1) g1 (Frame.cut_bad b _ (Frame.split_bad b (by omega) h1)),rim_cut kek b h0 _ g1 (Frame.rcut_bad b (by omega) h1)⟩
 · unfold Aes.keyOk at h0
   exact .inl ⟨2,rfl,im_key kek b _ (Sched.rounds_no _ ⟨by omega,by omega,by omega⟩) rfl,rim_key kek b (by rw [bne_iff_ne]; omega) (by rw [bne_iff_ne]; omega) (by rw [bne_iff_ne]; omega)⟩
end Block
namespace Block
open Att
theorem chk_parts {K:Int} {k u m v e:ByteArray} {L:List A2} (h:chkI K k u m v e L = 0):Kind.chkE (Kind.rowOf K) k.data.toList = 0 /\ attE L = 0 /\ headE K u m v e = 0 /\ Rec.recE K k L = 0:=by
 have h1:Rec.recE K k L = 0:=by
   unfold chkI at h
   by_cases h5:Rec.recE K k L = 0
   · exact h5
   · rw [if_pos h5] at h; exact absurd h h5
 have h2:Kind.chkE (Kind.rowOf K) k.data.toList = 0:=by
   unfold Rec.recE at h1
   by_cases h5:Kind.chkE (Kind.rowOf K) k.data.toList = 0
   · exact h5
   · rw [if_pos h5] at h1; exact absurd h1 h5
 refine ⟨h2, ?_, ?_,h1⟩
 · unfold Rec.recE at h1
   rw [if_neg (fun h => h h2)] at h1
   exact h1
 · unfold chkI at h
   rw [if_neg (fun h => h h1)] at h
   exact h
structure ExpOk (kek:ByteArray) (K:Int) (k u m v e:ByteArray) (L:List A2) (pads:ByteArray):Prop where
 key:Aes.keyOk kek
 chk:chkI K k u m v e L = 0
 pad:(pads.size:Int) = Load.padsI (Kind.rowOf K)
 top:topI K u m v e L = 0
theorem exp_ok {kek:ByteArray} {K:Int} {k u m v e pads:ByteArray} {L:List A2} (h:expE kek K k u m v e L pads = 0):ExpOk kek K k u m v e L pads:=by
 unfold expE at h
 by_cases h0:Aes.keyOk kek
 · rw [if_neg (fun h => h h0)] at h
   by_cases h1:chkI K k u m v e L = 0
   · rw [if_neg (fun h => h h1)] at h
     by_cases h2:(pads.size:Int) = Load.padsI (Kind.rowOf K)
     · rw [if_neg (fun h => h h2)] at h
       exact ⟨h0,h1,h2,h⟩
     · rw [if_pos h2] at h; cases h
   · rw [if_pos h1] at h; exact absurd h h1
 · rw [if_pos h0] at h; cases h
theorem exp_val {kek:ByteArray} {K:Int} {k u m v e pads:ByteArray} {L:List A2} (h:expE kek K k u m v e L pads = 0):expX kek K k u m v e L pads = Frame.joinX (topV K u m v e L) (Seal.cipK kek (topV K u m v e L) (Load.PLD k pads)) (Seal.bindK kek (topV K u m v e L) (Load.PLD k pads)):=by
 unfold expX
 rw [if_pos h]
structure Back (kek:ByteArray) (K:Int) (k u m v e:ByteArray) (L:List A2) (pads s:ByteArray):Prop where
 cut:Frame.cutE s = 0
 fl:s.extract 7 8 = LT K
 fu:s.extract 5 7 = u
 fm:s.extract 8 9 = m
 fv:s.extract 9 11 = v
 fe:s.extract 11 12 = e
 fL:Templ.fL (Frame.cutO s) = L
 opn:Opn.opened kek (s.extract 0 (Frame.cutD s)) (Frame.selC (Frame.cutR s)) (Frame.selT (Frame.cutR s)) = (Load.PLD k pads,0)
 siz:(s.size:Int) = sizI K k u m v e L
 small:s.size <= 9999
theorem back_of {kek:ByteArray} {K:Int} {k u m v e pads:ByteArray} {L:List A2} (h:expE kek K k u m v e L pads = 0) (s:ByteArray) (hs:s = expX kek K k u m v e L pads):Back kek K k u m v e L pads s:=by
 have ho:=exp_ok h
 obtain ⟨h1,h2,h3,-⟩:=chk_parts ho.chk
 obtain ⟨t1,t2,t3,t4⟩:=tt_fit K k pads h1 ho.pad
 have hc:=cip_size kek (topV K u m v e L) (Load.PLD k pads) t3
 have hcT:((Seal.cipK kek (topV K u m v e L) (Load.PLD k pads)).size:Int) = TT K:=by rw [hc,t1]
 have hg:=Seal.bindK_size kek (topV K u m v e L) (Load.PLD k pads)
 rw [exp_val h] at hs
 have htop:topV K u m v e L = Frame.topX (LT K) u m v e L ((Seal.cipK kek (topV K u m v e L) (Load.PLD k pads)).size:Int):=by rw [hcT]; rfl
 have hs2:s = Frame.joinX (Frame.topX (LT K) u m v e L ((Seal.cipK kek (topV K u m v e L) (Load.PLD k pads)).size:Int)) (Seal.cipK kek (topV K u m v e L) (Load.PLD k pads)) (Seal.bindK kek (topV K u m v e L) (Load.PLD k pads)):=by rw [<- htop]; exact hs
 obtain ⟨g1,g2,g3,g4,g5,g6,g7,g8,g9,g10⟩:=Frame.cut_top (LT K) u m v e L _ _ (by rw [hcT]; exact ho.top) hg s hs2
 rw [<- htop] at g8
 have hz:=Frame.cut_sizes s g1
 refine ⟨g1,g2,g3,g4,g5,g6,g7, ?_, ?_,by omega⟩
 · rw [g8,g9,g10]
   exact Opn.opened_sealed kek (topV K u m v e L) (Load.PLD k pads) ho.key t3
 · unfold sizI
   rw [if_neg (fun h => h ho.chk),if_neg (fun h => h ho.top)]
   have e1:(bs (Dig.hexL (Seal.cipK kek (topV K u m v e L) (Load.PLD k pads)).data.toList)).size = 2 * (Seal.cipK kek (topV K u m v e L) (Load.PLD k pads)).size:=by rw [size_bs,Dig.hexL_len]; rfl
   have e2:(bs (Dig.hexL (Seal.bindK kek (topV K u m v e L) (Load.PLD k pads)).data.toList)).size = 2 * (Seal.bindK kek (topV K u m v e L) (Load.PLD k pads)).size:=by rw [size_bs,Dig.hexL_len]; rfl
   rw [hs]
   unfold Frame.joinX
   rw [ByteArray.size_append,ByteArray.size_append,e1,e2,hg]
   omega
theorem import_back (kek:ByteArray) (K:Int) (k u m v e pads:ByteArray) (L:List A2) (h:expE kek K k u m v e L pads = 0) (hk:kek.size <= 100) (s:ByteArray) (hs:s = expX kek K k u m v e L pads):ImO 10 kek s K k u m v e L pads:=by
 have hB:=back_of h s hs
 have ho:=exp_ok h
 obtain ⟨h1,h2,h3,-⟩:=chk_parts ho.chk
 have d0:=Sched.rounds_yes kek.size ho.key _ rfl
 have h01:(((kek.size / 4 + 6:Nat):Int) == 0) = false:=by rw [beq_eq_false_iff_ne]; omega
 obtain ⟨z1,z2,z3,z4⟩:=Frame.cut_sizes s hB.cut
 have p1:(s.extract 0 (Frame.cutD s)).size <= 100000:=by rw [ByteArray.size_extract]; omega
 have p2:(Frame.selC (Frame.cutR s)).size <= 100000:=by
   have hl:=Templ.unS_le (Frame.cutR s)
   have hl2:(Frame.cutR s).length = (s.extract (Frame.cutD s) s.size).size:=rfl
   rw [ByteArray.size_extract] at hl2
   unfold Frame.selC
   split
   · rw [ByteArray.size_extract]; omega
   · decide
 have p3:(Frame.selT (Frame.cutR s)).size <= 100:=by
   unfold Frame.selT
   split
   · rw [ByteArray.size_extract]; omega
   · decide
 have c1:CutF s _ _ _ _ _ _ _ _ _:=Frame.cut_good s hB.cut
 rw [hB.fl,hB.fu,hB.fm,hB.fv,hB.fe,hB.fL] at c1
 have c2:=Opn.open_mak kek (s.extract 0 (Frame.cutD s)) (Frame.selC (Frame.cutR s)) (Frame.selT (Frame.cutR s)) hk p1 p2 p3
 rw [hB.opn] at c2
 have c3:=(Load.take_fwd K k pads h1 ho.pad).1
 exact im_ok kek s _ d0 h01 _ _ _ _ _ _ _ _ _ c1 _ c2 K k pads 0 rfl c3
end Block
namespace Block
open Att
def AlkT (K:Int) (k u m v e:ByteArray) (L:List A2):Prop:=∀ w x y,AttsS w x L -> AttsS w y L -> Calls Tryz.prog 12 #[rv K k u m v e x,rv K k u m v e y] w fun z w' => z = .returned (.bool true) /\ Since w w'
theorem AlkT.calls0 {K:Int} {k u m v e:ByteArray} {L:List A2} (h:AlkT K k u m v e L) {w:World} {x y:Value} (hx:AttsS w x L) (hy:AttsS w y L) {R:Ending -> World -> Prop} (j:∀ w',Since w w' -> R (.returned (.bool true)) w'):Calls Tryz.prog 12 #[rv K k u m v e x,rv K k u m v e y] w R :=
 (h w x y hx hy).mono fun _ _ ⟨he,hb⟩ => by subst he; exact j _ hb
theorem alike_t (K:Int) (k u m v e:ByteArray) (L:List A2):AlkT K k u m v e L:=by
 intro w x y hx hy
 obtain ⟨A,q,rfl,-,-⟩:=hx.slice
 obtain ⟨B,r,rfl,-,-⟩:=hy.slice
 have c1:=attrs_same L
 have t1:(k.toList == k.toList) = true:=beq_self_eq_true _
 have t2:(u.toList == u.toList) = true:=beq_self_eq_true _
 have t3:(m.toList == m.toList) = true:=beq_self_eq_true _
 have t4:(v.toList == v.toList) = true:=beq_self_eq_true _
 have t5:(e.toList == e.toList) = true:=beq_self_eq_true _
 have ha:=lH (hb_new w KT trivial #[.int .i64 K,.string k,.slice A L.length q,.string u,.string m,.string v,.string e] 26)
 have hb:=lH (hb_new (w.alloc (.cells #[.int .i64 K,.string k,.slice A L.length q,.string u,.string m,.string v,.string e] 26)) KT trivial #[.int .i64 K,.string k,.slice B L.length r,.string u,.string m,.string v,.string e] 26)
 replace ha:=lH (ha.out.step ((Below.refl _ (w.alloc (.cells #[.int .i64 K,.string k,.slice A L.length q,.string u,.string m,.string v,.string e] 26))).alloc (Nat.le_refl _) (.cells #[.int .i64 K,.string k,.slice B L.length r,.string u,.string m,.string v,.string e] 26)))
 have HX:=lH (hx.since ha.out.since)
 have HY:=lH (hy.since ha.out.since)
 have HS:=lH ha.out.since
 obtain ⟨_,m0,m1,m2,m3,m4,m5,m6⟩:=hb7 ha
 obtain ⟨_,n0,n1,n2,n3,n4,n5,n6⟩:=hb7 hb
 rw [show (w.alloc (.cells #[.int .i64 K,.string k,.slice A L.length q,.string u,.string m,.string v,.string e] 26)).heap.size = w.heap.size + 1 by simp] at n0 n1 n2 n3 n4 n5 n6
 clear hx hy ha hb
 go_enter Tryz.func12,Tryz.ntmps12
 go_wp2_with fail
 refine c1.calls0 HX.out HY.out ?_
 intro w1 h1
 replace HS:=lH (HS.out.step h1)
 clear h1 m0 m1 m2 m3 m4 m5 m6 n0 n1 n2 n3 n4 n5 n6
 go_wp2_with fail
 go_ret
 exact ⟨rfl,HS.out⟩
end Block
namespace Block
open Att
def k0:ByteArray:=⟨#[48,49,50,51,52,53,54,55,56,57,97,98,99,100,101,102]⟩
def q0:ByteArray:=⟨#[102,101,100,99,98,97,57,56,55,54,53,52,51,50,49,48]⟩
def p0:ByteArray:=⟨#[80,65,68,80,65,68,80,65,68,80,65,68,80,65,68,80,65,68,80,65,68,80,65,68,80,65,68,80,65,68]⟩
def u0:ByteArray:=⟨#[75,48]⟩
def m0:ByteArray:=⟨#[66]⟩
def v0:ByteArray:=⟨#[48,48]⟩
def e0:ByteArray:=⟨#[69]⟩
def h0:ByteArray:=⟨#[68,48,49,52,52,75,48,65,66,48,48,69,48,48,48,48]⟩
theorem results_rec {P:Program} {fn:Func} {p:Tmp} {ty:TypeId} (h:fn.results = #[.cell p ty]) (tmps:Array Value) (w:World) (g:Nat) (t:TypeId) (cs:Array Value) (fr:Nat × Nat) (d:TypeDesc)
   (hp:tmps.getD p undef = .pointer (some ⟨g,0,none⟩)) (hg:w.heap[g]? = some (.cells cs t fr))
   (hu:P.underlying ty = some d) (hd:(match d with | .struct _ | .array _ _ => true | _ => false) = true) (hi:(P.info? ty).map (·.size) = some cs.size) :
   (results fn tmps).run P w = .ok (.agg cs) w:=by
 have hp':tmps[p]?.getD undef = .pointer (some ⟨g,0,none⟩):=by simpa using hp
 simp [results,h,hp',asAddr,run_loadVar_row w g t ty cs fr d hg hu hd hi]
theorem full_mak:Mak 22 #[] (.agg (R7 1 k0 u0 m0 v0 e0 (.slice none 0 0))):=by
 intro w
 have hr:=lH (show HR w w.heap.size Z7 26 (w.alloc (.cells Z7 26)) from ⟨heap_alloc_new w _⟩)
 have HS:=lH (Since.alloc (Since.refl w) (.cells Z7 26))
 unfold Z7 at hr HS
 have r1:=hr.out.row
 go_enter Tryz.func22,Tryz.ntmps22
 go_wp2_with (refine wpList_store_row rfl 26 _ _ rfl w.heap.size (R7 1 k0 u0 m0 v0 e0 (.slice none 0 0)) (by rfl) (by rfl) _ _ r1 (r7_info _ _ _ _ _ _ _) rfl (r7_one _ _ _ _ _ _ _ _ _) ?_)
 exact bodyPost_ret (v:=.agg (R7 1 k0 u0 m0 v0 e0 (.slice none 0 0))) (results_rec Tryz.results22 _ _ _ _ _ _ _ rfl (setRow_heap _ _ _ _ _ _ r1) Tryz.underlying26 rfl (r7_info _ _ _ _ _ _ _)) rfl ⟨rfl,below_setRow HS.out (Nat.le_refl _) _⟩
theorem awake_core (J:ByteArray) (t1:((J.size:Int) == 144) = true) (t2:((J.extract 0 16).toList == [68,48,49,52,52,75,48,65,66,48,48,69,48,48,48,48]) = true) (i1:(16:Int) <= (J.size:Int)) (c1:RdE 8 q0 p0 1 k0 u0 m0 v0 e0 [] (.tuple #[.string J,.int .i64 0]))
   (c2:ImO 10 q0 J 1 k0 u0 m0 v0 e0 [] p0) (c3:RdB 13 [] (fun x => #[rv 1 k0 u0 m0 v0 e0 x]) (.int .i64 144)) (c4:AlkT 1 k0 u0 m0 v0 e0 []):KMk K3 7 #[] (.bool true):=by
 intro w hT
 have cf:=full_mak
 have HS:=lH (Since.refl w)
 have HT:=lH hT
 unfold R7 at cf
 unfold RdE at c1
 unfold k0 q0 p0 u0 m0 v0 e0 at *
 clear hT
 go_enter Tryz.func7,Tryz.ntmps7
 go_wp2_with fail
 refine cf.calls0 ?_
 intro w1 h1
 replace HS:=lH (HS.out.step h1)
 replace HT:=lH (Kp.keep HT.out h1)
 clear h1
 go_wp2_with fail
 refine c1.calls0 HT.out (AttsS.nil _) ?_
 intro w2 h2
 replace HS:=lH (HS.out.step h2)
 replace HT:=lH (Kp.keep HT.out h2)
 clear h2
 go_wp2_with fail
 refine (c2 _ HT.out).mono ?_
 rintro x w3 ⟨a,rfl,ha,h3⟩
 replace HS:=lH (HS.out.step h3)
 replace HT:=lH (Kp.keep HT.out h3)
 obtain ⟨A,q,hxe,-,-⟩:=ha.slice
 replace hxe:a = .slice A 0 q:=hxe
 subst hxe
 have hp:=lH (bx_new (K:=1) (k:=⟨#[48,49,50,51,52,53,54,55,56,57,97,98,99,100,101,102]⟩) (u:=⟨#[75,48]⟩) (m:=⟨#[66]⟩) (v:=⟨#[48,48]⟩) (e:=⟨#[69]⟩) HT.out ha)
 unfold R7
 clear h3 ha HT c1 c2
 go_wp2_with fail
 obtain ⟨_,m0,m1,m2,m3,m4,m5,m6⟩:=bx7 hp
 go_region_held3 (fun W' => Hid (BX w3 w3.heap.size 1 ⟨#[48,49,50,51,52,53,54,55,56,57,97,98,99,100,101,102]⟩ ⟨#[75,48]⟩ ⟨#[66]⟩ ⟨#[48,48]⟩ ⟨#[69]⟩ (.slice A 0 q) ([]:List A2) W') /\ W'.cell? ⟨w3.heap.size,0,none⟩ = some (.int .i64 1) /\ W'.cell? ⟨w3.heap.size,1,none⟩ = some (.string ⟨#[48,49,50,51,52,53,54,55,56,57,97,98,99,100,101,102]⟩) /\ W'.cell? ⟨w3.heap.size,2,none⟩ = some (.slice A 0 q) /\ W'.cell? ⟨w3.heap.size,3,none⟩ = some (.string ⟨#[75,48]⟩) /\ W'.cell? ⟨w3.heap.size,4,none⟩ = some (.string ⟨#[66]⟩) /\ W'.cell? ⟨w3.heap.size,5,none⟩ = some (.string ⟨#[48,48]⟩) /\ W'.cell? ⟨w3.heap.size,6,none⟩ = some (.string ⟨#[69]⟩))
   (first | exact bx7 (by assumption) | exact bx7 (bxdrew (by assumption)))
   (first
     | (go_at_call 22; refine cf.calls0 ?_; intro w4 h4; have hp4:=bxstep h4 (by first | assumption | exact bxdrew (by assumption)); clear h4)
     | (go_at_call 12; refine c4.calls0 (Hid.out (by first | assumption | exact bxdrew (by assumption)):BX w3 w3.heap.size 1 ⟨#[48,49,50,51,52,53,54,55,56,57,97,98,99,100,101,102]⟩ ⟨#[75,48]⟩ ⟨#[66]⟩ ⟨#[48,48]⟩ ⟨#[69]⟩ (.slice A 0 q) ([]:List A2) _).atts (AttsS.nil _) ?_; intro w5 h5; have hp5:=bxstep h5 (by first | assumption | exact bxdrew (by assumption)); clear h5)
     | (go_at_call 13; refine c3.calls0 (Hid.out (by first | assumption | exact bxdrew (by assumption)):BX w3 w3.heap.size 1 ⟨#[48,49,50,51,52,53,54,55,56,57,97,98,99,100,101,102]⟩ ⟨#[75,48]⟩ ⟨#[66]⟩ ⟨#[48,48]⟩ ⟨#[69]⟩ (.slice A 0 q) ([]:List A2) _).hb.tabs (AttsS.nil _) ?_; intro w6 h6; have hp6:=bxstep h6 (by first | assumption | exact bxdrew (by assumption)); clear h6))
 all_goals
   clear m0 m1 m2 m3 m4 m5 m6
   go_wp2_with fail
   go_ret
   exact ⟨rfl,HS.out.step hp6.out.hb.since⟩
theorem aw_e:expE q0 1 k0 u0 m0 v0 e0 [] p0 = 0:=by decide +kernel
theorem aw_h:topV 1 u0 m0 v0 e0 [] = h0:=by decide +kernel
theorem aw_s:sizI 1 k0 u0 m0 v0 e0 [] = 144:=by decide +kernel
theorem awake_k:KMk K3 7 #[] (.bool true):=by
 obtain ⟨J,hJ⟩:∃ J,J = expX q0 1 k0 u0 m0 v0 e0 [] p0:=⟨_,rfl⟩
 have hB:=back_of aw_e J hJ
 have c1:=export_b q0 p0 1 k0 u0 m0 v0 e0 [] (by decide) (by decide) (by decide) (by decide)
 rw [<- hJ,aw_e] at c1
 have c2:=import_back q0 1 k0 u0 m0 v0 e0 p0 [] aw_e (by decide) J hJ
 have c3:=size_b 1 k0 u0 m0 v0 e0 [] (by decide) (by decide)
 rw [aw_s] at c3
 have hs:=hB.siz
 rw [aw_s] at hs
 have hx:J.extract 0 16 = h0:=by
   rw [hJ,exp_val aw_e]
   unfold Frame.joinX
   refine Opt.ext_pre _ h0 (bs (Dig.hexL (Seal.cipK q0 (topV 1 u0 m0 v0 e0 []) (Load.PLD k0 p0)).data.toList) ++ bs (Dig.hexL (Seal.bindK q0 (topV 1 u0 m0 v0 e0 []) (Load.PLD k0 p0)).data.toList)) ?_ 16 (by decide)
   rw [Opt.app_assoc,aw_h]
 exact awake_core J (by rw [beq_iff_eq]; exact hs) (by rw [hx,toList_d]; rfl) (by omega) c1 c2 c3 (alike_t _ _ _ _ _ _ _)
end Block
end Go.Proofs.YtddlaafpianjbaaGreatDoor
