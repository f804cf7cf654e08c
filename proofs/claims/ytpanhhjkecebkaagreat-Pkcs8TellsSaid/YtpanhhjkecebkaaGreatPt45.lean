import Derived.Test.YtpanhhjkecebkaaGreatPt41
set_option maxRecDepth 100000
namespace Go.Proofs.YtpanhhjkecebkaaGreat
open Go.RowKit
namespace Tree
open Tlv Strs Rw
theorem rleaf_mk (c t:Int) (d:ByteArray):MkT 57 #[.int .i64 c,.int .i64 t,.string d] [⟨c,t,false,d,[]⟩]:=by
 intro w
 go_enter Tryz.func57,Tryz.ntmps57
 go_wp2_with fail;go_ret;refine ⟨_,rfl,⟨[(⟨c,t,false,d,[]⟩,.slice none 0 0)],⟨?_, ?_⟩,rfl⟩,(Since.refl w).alloc _⟩
 · exact SlR.lit w 5 1 _ rfl (by decide) _ rfl _
 · intro x hx;obtain rfl:=List.mem_singleton.1 hx;exact SlR.nil _ 1
theorem own_mv {W W':World} {base:Nat} {e:TypeId} {k:Nat} {v:Value} {n:Nat} {xs:List Value} (h:W.ownsRow base e k v n xs) (hW:∀ b,base <= b -> b < W.heap.size -> W'.heap[b]? = W.heap[b]?):W'.ownsRow base e k v n xs:=by
 obtain ⟨h1,h2⟩:=h;refine ⟨h1, ?_⟩;rcases h2 with h2 | ⟨g,cap,cur,rfl,hb,hg,r⟩
 · exact Or.inl h2
 · exact Or.inr ⟨g,cap,cur,rfl,hb,(hW g hb (Array.getElem?_eq_some_iff.1 hg).1).trans hg,r⟩
set_option maxHeartbeats 8000000 in
theorem rof_mkn (c t:Int) (Ns:List (List Nd)) (hF:∀ N ∈ Ns,Fair N) (hnl:Ns.length <= 1000) (hsum:∀ a,((Ns.take a).foldl stepN [⟨c,t,true,⟨#[]⟩,[]⟩]).length <= 10000) (hks:∀ a,∀ x ∈ (Ns.take a).foldl stepN [⟨c,t,true,⟨#[]⟩,[]⟩],x.k.length <= 100000) (w:World) (P:Value) (hP:TreesS w P Ns):Calls Tryz.prog 56 #[.int .i64 c,.int .i64 t,P] w fun e w' => ∃ v',e = .returned v' /\ (∀ W':World,w'.heap.size <= W'.heap.size -> (∀ b,w.heap.size <= b -> b < w'.heap.size -> W'.heap[b]? = w'.heap[b]?) -> TreeS W' v' (ofN c t Ns)) /\ Since w w':=by
 have HP:=lH hP;have HS:=lH (Since.refl w);obtain ⟨PA,pc,rfl,hp1,hp2⟩:=hP.slice;have HFF:=lH hF;have HSM:=lH hsum;have HKS:=lH hks;clear hP hF hsum hks
 go_enter Tryz.func56,Tryz.ntmps56
 go_wp2_with fail;have hR0:Hid (Rw.Rows (w.alloc (.cells #[.int .i64 c,.int .i64 t,.bool true,.string ⟨#[]⟩,.slice none 0 0] 87)) w.heap.size (⟨87,5,.slice (some ⟨w.heap.size,0,none⟩) 1 1,1,[((⟨c,t,true,⟨#[]⟩,[]⟩:Nd),Value.slice none 0 0)].flatMap nc⟩ :: [((⟨c,t,true,⟨#[]⟩,[]⟩:Nd),Value.slice none 0 0)].map kr)):=lH (by
   refine ⟨fun r hr => ?_,List.pairwise_cons.2 ⟨fun r hr => ?_,by simp⟩⟩
   · rcases List.mem_cons.1 hr with rfl | hr
     · exact own_lone (C:=[.int .i64 c,.int .i64 t,.bool true,.string ⟨#[]⟩,.slice none 0 0]) (Nat.le_refl _) (heap_alloc_new w _)
     · rw [List.mem_singleton.1 hr];exact World.ownsRow_nil _ _ _ _
   · rw [List.mem_singleton.1 hr];exact Rw.Apart.none.symm)
 have HS0:=lH ((Since.refl w).alloc (.cells #[.int .i64 c,.int .i64 t,.bool true,.string ⟨#[]⟩,.slice none 0 0] 87));clear HS;go_loopw [7,8] (fun V i wr => ∃ (a:Nat) (E:List (Nd × Value)),i = .int .i64 (a:Int) /\ a <= Ns.length /\ 0 < E.length /\ Hid (E.map Prod.fst = (Ns.take a).foldl stepN [⟨c,t,true,⟨#[]⟩,[]⟩]) /\ Hid (Rw.Rows wr w.heap.size (⟨87,5,V,E.length,E.flatMap nc⟩ :: E.map kr)) /\ Hid (Since w wr)) (fun _ i _ => Ns.length - (intOf i).toNat)
 case atStart => exact ⟨0,[((⟨c,t,true,⟨#[]⟩,[]⟩:Nd),Value.slice none 0 0)],rfl,Nat.zero_le _,Nat.zero_lt_one,lH rfl,hR0,HS0⟩
 case round =>
   clear HS0 hR0;obtain ⟨a,E,rfl,ha,hE0,hE,HR,HS⟩:=hrel;obtain ⟨g,cc,hV,hc1,hc2⟩:=own_form (HR.out.own _ List.mem_cons_self) hE0;dsimp only at hV;subst hV
   by_cases hlt:a < Ns.length
   · obtain ⟨b,o,c9,hv,l3,l4⟩:=HP.out.form (by omega);obtain ⟨rfl,-,rfl⟩:=Value.slice.inj hv;clear hv;obtain ⟨M,hM⟩:∃ M,Ns[a]? = some M:=⟨_,List.getElem?_eq_getElem hlt⟩
     obtain ⟨x,hx1,hx2⟩:=l4 a M hM;have n0:=(Below.cell HS.out (p:=⟨b,o + a,none⟩) l3).trans hx1;have HX:=lH hx2;have hfs:=fold_snoc [⟨c,t,true,⟨#[]⟩,[]⟩] Ns a M hM;rw [<- hE.out] at hfs;have HFS:=lH hfs;have hMF:=HFF.out M (List.mem_iff_getElem?.2 ⟨a,hM⟩);obtain ⟨XA,xc,rfl,-,-⟩:=hx2.slice
     by_cases hM0:M.length = 0
     · have t1:decide ((0:Int) < (M.length:Int)) = false:=decide_eq_false (by omega);have t2:decide (0 < M.length) = false:=decide_eq_false (by omega);have hE2:Hid (E.map Prod.fst = (Ns.take (a + 1)).foldl stepN [⟨c,t,true,⟨#[]⟩,[]⟩]):=lH (by
         rw [HFS.out];unfold stepN;rw [if_pos hM0])
       have ha1:(0:Int) <= (a:Int):=by omega
       have ha2:(a:Int) < (Ns.length:Int):=by omega
       clear l4 hx1 hx2 hM hfs;go_wp2_with fail;go_loopw [7,10] (fun V' jv wr' => V' = .slice (some ⟨g,0,none⟩) E.length cc /\ jv = .int .i64 0 /\ wr' = wr) (fun _ jv _ => 0)
       case atStart => exact ⟨rfl,rfl,rfl⟩
       case round =>
         obtain ⟨rfl,rfl,rfl⟩:=hrel;go_wp2_with fail;go_roundw
         case rel => exact ⟨a + 1,E,by go_num,by omega,hE0,hE2,HR,HS⟩
         case measure => (simp [intOf] <;> omega)
     · have t1:decide ((0:Int) < (M.length:Int)) = true:=decide_eq_true (by omega);have t2:decide (0 < M.length) = true:=decide_eq_true (by omega);obtain ⟨⟨hd,kv⟩,E',rfl⟩:∃ y E',E = y :: E':=by
         cases E with
         | nil => exact absurd hE0 (Nat.lt_irrefl _)
         | cons y E' => exact ⟨y,E',rfl⟩
       have hlenE:E'.length + 1 <= 10000:=by
         have h9:=HSM.out a;rw [<- hE.out,List.length_map] at h9;exact h9
       have hkl:hd.k.length <= 100000:=by
         have h9:=HKS.out a hd;rw [<- hE.out] at h9;exact h9 (by simp)
       have hRk:=HR.out.own (kr (hd,kv)) (by simp);obtain ⟨kA,kc,hkv⟩:∃ A c,kv = .slice A hd.k.length c:=own_any hRk;subst hkv;have o2:=((own_cells (HR.out.own _ List.mem_cons_self)).2.2 4 (.slice kA hd.k.length kc) rfl).1;obtain ⟨m,hm⟩:∃ m,m = E'.length + 1:=⟨_,rfl⟩
       have hRR:Rw.Rows wr w.heap.size (([⟨87,5,.slice (some ⟨g,0,none⟩) m cc,m,((hd,.slice kA hd.k.length kc) :: E').flatMap nc⟩]:List Row) ++ ⟨3,1,.slice kA hd.k.length kc,hd.k.length,hd.k.map (Value.int .i64)⟩ :: E'.map kr):=by
         rw [hm];exact HR.out
       have HRR:=lH hRR;have HB1:=lH (show hd.k.length + 1 <= maxLen by unfold maxLen; omega);have HB2:=lH (show (hd.k.length + 1) * 8 <= 140737488355328 by omega);have hm1:0 < m:=by omega
       have x1:(0:Int) < (m:Int):=by omega
       have HM1:=lH (show 4 < m * 5 by omega);have hm3:m <= 10000:=by omega
       have HMM:=lH hm;have e8:((hd,Value.slice kA hd.k.length kc) :: E').length = m:=by rw [hm]; rfl
       rw [e8];have ha1:(0:Int) <= (a:Int):=by omega
       have ha2:(a:Int) < (Ns.length:Int):=by omega
       have N0:=lH (And.intro l3 hx1);obtain ⟨bx,ox,cx,hxe,-,-,b1,b2⟩:=treeform hx2 (by omega);obtain ⟨rfl,-,rfl⟩:=Value.slice.inj hxe;have B1:=lH b1;have B2:=lH b2;clear l4 hx1 hx2 hM hfs hRR HR hRk e8 hlenE hE0 hm b1 b2 hxe;have tok1:True:=trivial;go_wp2_with (first
         | (at_builtin; have _t:=tok1; refine app_rows elemT rfl _ _ (by rfl) w wr _ rfl _ _ (.slice kA hd.k.length kc) hd.k.length _ (by rfl) HRR.out HS.out #[.int .i64 (m:Int)] 1 1 (by rfl) rfl (by intro v hv; simp at hv; subst hv; rfl) HB1.out HB2.out ?_; intro kv2 w6 HQ1 HT1 hk1; obtain ⟨ka,kc2,rfl⟩:∃ A c,kv2 = .slice A (hd.k.length + 1) c:=own_any HQ1.get; have HR6:=lH HQ1; have HS6:=lH HT1; clear HQ1 HT1 hk1 tok1 o2 n0)
         | (refine RwL.store_rows rfl 44 _ _ (by rfl) intl_one w w6 [] (⟨3,1,.slice ka (hd.k.length + 1) kc2,hd.k.length + 1,hd.k.map (Value.int .i64) ++ ([.int .i64 (m:Int)]:List Value)⟩ :: E'.map kr) 87 5 g m cc _ HR6.out HS6.out 4 HM1.out (by rfl) (.slice ka (hd.k.length + 1) kc2) (by rfl) rfl ?_; intro w7 HQ2 HT2 hk2))
       have hst:(((hd,Value.slice kA hd.k.length kc) :: E').flatMap nc).set 4 (.slice ka (hd.k.length + 1) kc2) = ((({ hd with k:=hd.k ++ [(m:Int)] }:Nd),Value.slice ka (hd.k.length + 1) kc2) :: E').flatMap nc:=mset [] E' hd (.slice kA hd.k.length kc) (.slice ka (hd.k.length + 1) kc2) (hd.k ++ [(m:Int)]);obtain ⟨E1,hE1⟩:∃ E1,E1 = (({ hd with k:=hd.k ++ [(m:Int)] }:Nd),Value.slice ka (hd.k.length + 1) kc2) :: E':=⟨_,rfl⟩
       have hl1:E1.length = m:=by rw [hE1,HMM.out]; rfl
       have hR7:Rw.Rows w7 w.heap.size (⟨87,5,.slice (some ⟨g,0,none⟩) m cc,E1.length,E1.flatMap nc⟩ :: E1.map kr):=by
         have e2:kr (({ hd with k:=hd.k ++ [(m:Int)] }:Nd),Value.slice ka (hd.k.length + 1) kc2) = ⟨3,1,.slice ka (hd.k.length + 1) kc2,hd.k.length + 1,hd.k.map (Value.int .i64) ++ ([.int .i64 (m:Int)]:List Value)⟩:=by
           unfold kr;simp
         rw [hl1,hE1,List.map_cons,e2,<- hst];exact HQ2
       have hstep:stepN (((hd,Value.slice kA hd.k.length kc) :: E').map Prod.fst) M = E1.map Prod.fst ++ M.map (shift (m:Int)):=by
         unfold stepN;rw [if_neg hM0,List.length_map,show ((hd,Value.slice kA hd.k.length kc) :: E').length = m from by rw [HMM.out]; rfl,hE1];rfl
       rw [hstep] at HFS;have HFS2:=HFS;have HR7:=lH hR7;have HS7:=lH HT2;have HL1:=lH hl1;have HM9:=lH hMF;clear hst hR7 HQ2 HT2 hk2 HR6 HS6 hl1 hstep HFS hMF HRR HMM hE HM1 HB1 HB2 HS;go_wp2_with fail;go_loopw [7,10] (fun V' jv wr' => ∃ (j:Nat) (G:List (Nd × Value)),jv = .int .i64 (j:Int) /\ j <= M.length /\ Hid (G.length = m + j) /\ Hid (G.map Prod.fst = E1.map Prod.fst ++ (M.take j).map (shift (m:Int))) /\ Hid (Rw.Rows wr' w.heap.size (⟨87,5,V',G.length,G.flatMap nc⟩ :: G.map kr)) /\ Hid (Since w wr')) (fun _ jv _ => M.length - (intOf jv).toNat)
       case atStart => exact ⟨0,E1,rfl,Nat.zero_le _,lH (by rw [HL1.out]; rfl),lH (by simp),HR7,HS7⟩
       case round =>
         clear HR7 HS7;obtain ⟨j,G,rfl,hj,hG,hGm,HR,HS⟩:=hrel;have n0:=(Below.cell HS.out (p:=⟨b,o + a,none⟩) N0.out.1).trans N0.out.2
         by_cases hlj:j < M.length
         · obtain ⟨y,hy⟩:∃ y,M[j]? = some y:=⟨_,List.getElem?_eq_getElem hlj⟩
           have hym:=List.mem_iff_getElem?.2 ⟨j,hy⟩;obtain ⟨A,q,m0,m1,m2,m3,m4,m5⟩:=B2.out j y hy;have q0:=(Below.cell HS.out (p:=⟨bx,ox + j * 5,none⟩) B1.out).trans m0;have q1:=(Below.cell HS.out (p:=⟨bx,ox + j * 5 + 1,none⟩) B1.out).trans m1;have q2:=(Below.cell HS.out (p:=⟨bx,ox + j * 5 + 2,none⟩) B1.out).trans m2;have q3:=(Below.cell HS.out (p:=⟨bx,ox + j * 5 + 3,none⟩) B1.out).trans m3;have q4:=(Below.cell HS.out (p:=⟨bx,ox + j * 5 + 4,none⟩) B1.out).trans m4;have hml:M.length <= 1000:=HM9.out.len;have x3:(j:Int) < (M.length:Int):=by omega
           have x4:(0:Int) <= (j:Int):=by omega
           have c5:=rmoved_own y.k (m:Int) (HM9.out.kids y hym) (by omega) (HM9.out.nums y hym);have r1:(wr.alloc (.cells #[.int .i64 0,.int .i64 0,.bool false,.string ⟨#[]⟩,.slice none 0 0] 87)).heap[wr.heap.size]? = some (.cells #[.int .i64 0,.int .i64 0,.bool false,.string ⟨#[]⟩,.slice none 0 0] 87 (0,0)):=heap_alloc_new wr _;have hb:=lH (hb_row (K:=KT) (C':=#[.int .i64 y.c,.int .i64 y.t,.bool y.b,.string y.d,.slice A y.k.length q]) ((Since.refl wr).alloc _) (Nat.le_refl _) trivial r1);obtain ⟨_,y0,y1,y2,y3,y4⟩:=hb5 hb;have hwr:w.heap.size <= wr.heap.size:=Below.size HS.out;have hrow3:=lH (rows_fresh HR.out hb.out.since (RwL.lone 87 wr.heap.size [.int .i64 y.c,.int .i64 y.t,.bool y.b,.string y.d,.slice A y.k.length q]) (own_lone (Nat.le_refl _) (setRow_heap _ _ _ _ _ _ r1)) hwr);have HS3:=lH (HS.out.step hb.out.since);have K5:=lH ((m5.since HS.out).since hb.out.since);have hsplit:(M.take (j + 1)).map (shift (m:Int)) = (M.take j).map (shift (m:Int)) ++ [shift (m:Int) y]:=by
             obtain ⟨g1,g2⟩:=List.getElem?_eq_some_iff.1 hy;rw [List.take_succ_eq_append_getElem g1,g2,List.map_append];rfl
           have HSP:=lH hsplit;clear m0 m1 m2 m3 m4 m5 hy hym hsplit HR HS;go_wp2_with (refine wpList_store_row rfl 87 _ _ rfl wr.heap.size #[.int .i64 y.c,.int .i64 y.t,.bool y.b,.string y.d,.slice A y.k.length q] (by rfl) (by rfl) _ _ r1 (node_info _ _ _ _ _ _ _) rfl (node_one _ _ _ _ _ _ _) ?_)
           clear q0 q1 q2 q3 q4 y0 y1 y2 y3 y4 r1 hb n0;generalize World.setRow _ _ _ = W3 at hrow3 HS3 K5 ⊢;refine (c5 W3 _ K5.out).mono ?_;rintro _ w4 ⟨A2,q2,rfl,ho2,h4⟩;have hrow4:=rows_fresh hrow3.out h4 ⟨3,1,.slice A2 y.k.length q2,y.k.length,(y.k.map (· + (m:Int))).map (Value.int .i64)⟩ ho2 (Below.size HS3.out);have HR4:=lH (show Rw.Rows w4 w.heap.size (([⟨3,1,.slice A2 y.k.length q2,y.k.length,(y.k.map (· + (m:Int))).map (Value.int .i64)⟩]:List Row) ++ ⟨87,5,.slice (some ⟨wr.heap.size,0,none⟩) 1 1,1,[.int .i64 y.c,.int .i64 y.t,.bool y.b,.string y.d,.slice A y.k.length q]⟩ :: (⟨87,5,_,G.length,G.flatMap nc⟩ :: G.map kr)) from hrow4);have HS4:=lH (HS3.out.step h4);clear ho2 h4 hrow4 hrow3 HS3 K5 c5;have tok1:True:=trivial;have HB1:=lH (show G.length + 1 <= maxLen by have:=hG.out; have:=HM9.out.len; unfold maxLen; omega);have HB2:=lH (show (G.length + 1) * 64 <= 140737488355328 by have:=hG.out; have:=HM9.out.len; omega);go_wp2_with (first
             | (refine RwL.store_rows rfl 44 _ _ (by rfl) intl_one w w4 _ _ 87 5 wr.heap.size 1 1 _ HR4.out HS4.out 4 (by decide) (by rfl) (.slice A2 y.k.length q2) (by rfl) rfl ?_; intro w5 HQ5 HT5 hk5; have hbx:=HQ5.own (RwL.lone 87 wr.heap.size [.int .i64 y.c,.int .i64 y.t,.bool y.b,.string y.d,.slice A2 y.k.length q2]) (by simp [RwL.lone]); have y0:=(RwL.lone_cell hbx 0 _ rfl).1; have y1:=(RwL.lone_cell hbx 1 _ rfl).1; have y2:=(RwL.lone_cell hbx 2 _ rfl).1; have y3:=(RwL.lone_cell hbx 3 _ rfl).1; have y4:=(RwL.lone_cell hbx 4 _ rfl).1; have HR5:=lH HQ5; have HS5:=lH HT5; clear HQ5 HT5 hk5 hbx)
             | (at_builtin; have _t:=tok1; refine app_rows elemN rfl _ _ (by rfl) w w5 _ rfl ([⟨3,1,.slice A2 y.k.length q2,y.k.length,(y.k.map (· + (m:Int))).map (Value.int .i64)⟩,RwL.lone 87 wr.heap.size [.int .i64 y.c,.int .i64 y.t,.bool y.b,.string y.d,.slice A2 y.k.length q2]]:List Row) (G.map kr) _ G.length (G.flatMap nc) (by rfl) HR5.out HS5.out #[.int .i64 y.c,.int .i64 y.t,.bool y.b,.string y.d,.slice A2 y.k.length q2] 1 1 (by rfl) rfl (by intro u hu; simp at hu; rcases hu with rfl | rfl | rfl | rfl | rfl <;> rfl) HB1.out HB2.out ?_; intro V2 w6 HQ6 HT6 hk6; clear tok1))
           have e9:kr (shift (m:Int) y,.slice A2 y.k.length q2) = ⟨3,1,.slice A2 y.k.length q2,y.k.length,(y.k.map (· + (m:Int))).map (Value.int .i64)⟩:=by
             unfold kr shift;simp
           have h7:=rows_last (rs:=RwL.lone 87 wr.heap.size [.int .i64 y.c,.int .i64 y.t,.bool y.b,.string y.d,.slice A2 y.k.length q2] :: ⟨87,5,V2,G.length + 1,G.flatMap nc ++ nc (shift (m:Int) y,.slice A2 y.k.length q2)⟩ :: G.map kr) HQ6;have h8:=RwL.rows_drop h7;have HR9:Hid (Rw.Rows w6 w.heap.size (⟨87,5,V2,(G ++ [(shift (m:Int) y,Value.slice A2 y.k.length q2)]).length,(G ++ [(shift (m:Int) y,Value.slice A2 y.k.length q2)]).flatMap nc⟩ :: (G ++ [(shift (m:Int) y,Value.slice A2 y.k.length q2)]).map kr)):=lH (by
             rw [List.length_append,List.flatMap_append,List.map_append,List.map_cons,List.map_nil,e9,List.flatMap_cons,List.flatMap_nil,List.append_nil];exact h8)
           have HD9:Hid ((G ++ [(shift (m:Int) y,Value.slice A2 y.k.length q2)]).map Prod.fst = E1.map Prod.fst ++ (M.take (j + 1)).map (shift (m:Int))):=lH (by
             rw [HSP.out,List.map_append,hGm.out,List.append_assoc];rfl)
           have HL9:Hid ((G ++ [(shift (m:Int) y,Value.slice A2 y.k.length q2)]).length = m + (j + 1)):=lH (by rw [List.length_append,hG.out]; rfl);have HS9:=lH HT6;clear h7 h8 HQ6 HT6 hk6 e9;go_wp2_with fail;go_roundw
           case rel => exact ⟨j + 1,_,by go_num,by omega,HL9,HD9,HR9,HS9⟩
           case measure => (simp [intOf] <;> omega)
         · obtain rfl:j = M.length:=by omega
           have HE9:Hid (G.map Prod.fst = (Ns.take (a + 1)).foldl stepN [⟨c,t,true,⟨#[]⟩,[]⟩]):=lH (by rw [HFS2.out,hGm.out,List.take_length]);have hGl:0 < G.length:=by have:=hG.out; omega
           go_wp2_with fail;go_roundw
           case rel => exact ⟨a + 1,G,by go_num,by omega,hGl,HE9,HR,HS⟩
           case measure => (simp [intOf] <;> omega)
   · obtain rfl:a = Ns.length:=by omega
     have hT:∀ W':World,wr.heap.size <= W'.heap.size -> (∀ b,w.heap.size <= b -> b < wr.heap.size -> W'.heap[b]? = wr.heap[b]?) -> TreeS W' (.slice (some ⟨g,0,none⟩) E.length cc) (ofN c t Ns):=fun W' _ hW => ⟨E,⟨SlR.own (own_mv (HR.out.own _ List.mem_cons_self) hW),fun x hx => by
       have h9:=own_mv (HR.out.own (kr x) (List.mem_cons_of_mem _ (List.mem_map.2 ⟨x,hx,rfl⟩))) hW;have h8:SlR W' 1 x.2 x.1.k.length (x.1.k.map (Value.int .i64)):=SlR.own h9;exact h8⟩,by rw [hE.out,List.take_length]; rfl⟩
     have HT:=lH hT;clear hT;go_wp2_with fail;go_ret;exact ⟨_,rfl,HT.out,HS.out⟩
theorem rof_gn (c t:Nat) (gs:List F) (hs:∀ g ∈ gs,single g) (hn:gs.length <= 1000) (hc:(join gs).cnt <= 1000) (w:World) (P:Value) (hP:TreesS w P (gs.map (fun g => g.flat 0))):Calls Tryz.prog 56 #[.int .i64 (c:Int),.int .i64 (t:Int),P] w fun e w' => ∃ v',e = .returned v' /\ (∀ W':World,w'.heap.size <= W'.heap.size -> (∀ b,w.heap.size <= b -> b < w'.heap.size -> W'.heap[b]? = w'.heap[b]?) -> TreeS W' v' ((F.cons c t (join gs) .nil).flat 0)) /\ Since w w':=by
 have key:∀ a,((gs.map (fun g => g.flat 0)).take a).foldl stepN [⟨(c:Int),(t:Int),true,⟨#[]⟩,[]⟩] = (F.cons c t (join (gs.take a)) .nil).flat 0:=fun a => by
   rw [<- List.map_take];exact ofN_flat c t (gs.take a) (fun g hg => hs g (List.mem_of_mem_take hg))
 have hle:∀ a,(F.cons c t (join (gs.take a)) .nil).cnt <= 1001:=fun a => by
   show 1 + (join (gs.take a)).cnt + 0 <= 1001
   have:=join_take gs a;omega
 have h9:=rof_mkn (c:Int) (t:Int) (gs.map (fun g => g.flat 0)) (fun N hN => by
     obtain ⟨g,hg,rfl⟩:=List.mem_map.1 hN;exact fair_flat g (by have:=mem_join gs g hg; omega)) (by rw [List.length_map]; exact hn) (fun a => by rw [key a,F.flat_len]; have:=hle a; omega) (fun a x hx => by
     rw [key a] at hx;have:=(flat_k _ 0 x hx).1;have:=hle a;omega) w P hP
 rw [show ofN (c:Int) (t:Int) (gs.map (fun g => g.flat 0)) = (F.cons c t (join gs) .nil).flat 0 from ofN_flat c t gs hs] at h9;exact h9
theorem rof_g (c t:Nat) (gs:List F) (hs:∀ g ∈ gs,single g) (hn:gs.length <= 1000) (hc:(join gs).cnt <= 1000) (w:World) (P:Value) (hP:TreesS w P (gs.map (fun g => g.flat 0))):Calls Tryz.prog 56 #[.int .i64 (c:Int),.int .i64 (t:Int),P] w fun e w' => ∃ v',e = .returned v' /\ TreeS w' v' ((F.cons c t (join gs) .nil).flat 0) /\ Since w w' :=
 (rof_gn c t gs hs hn hc w P hP).mono fun _ _ ⟨v',h1,h2,h3⟩ => ⟨v',h1,h2 _ (Nat.le_refl _) (fun _ _ _ => rfl),h3⟩
end Tree
namespace Tree
open Tlv Strs
structure N3 (w:World) (b p:Nat) (x y z:Value) (W:World):Prop where
 since:Since w W
 lt:b < w.heap.size
 c0:W.cell? ⟨b,p,none⟩ = some x
 c1:W.cell? ⟨b,p + 1,none⟩ = some y
 c2:W.cell? ⟨b,p + 2,none⟩ = some z
section
variable {w:World} {b p:Nat} {x y z:Value} {W W':World}
theorem n3step (hs:Since W W') (h:Hid (N3 w b p x y z W)):Hid (N3 w b p x y z W'):=by
 have hl:b < W.heap.size:=Nat.lt_of_lt_of_le h.out.lt (Below.size h.out.since);exact lH ⟨h.out.since.step hs,h.out.lt,(Below.cell hs (p:=⟨b,p,none⟩) hl).trans h.out.c0,(Below.cell hs (p:=⟨b,p + 1,none⟩) hl).trans h.out.c1,(Below.cell hs (p:=⟨b,p + 2,none⟩) hl).trans h.out.c2⟩
theorem n3drew (h:Hid (N3 w b p x y z W)):Hid (N3 w b p x y z W.drew):=n3step (Since.drew (Since.refl _)) h
theorem n3all (h:Hid (N3 w b p x y z W)):Hid (N3 w b p x y z W) /\ W.cell? ⟨b,p,none⟩ = some x /\ W.cell? ⟨b,p + 1,none⟩ = some y /\ W.cell? ⟨b,p + 2,none⟩ = some z:=⟨h,h.out.c0,h.out.c1,h.out.c2⟩
end
theorem bs_app (l m:List UInt8):bs l ++ bs m = bs (l ++ m):=by
 apply ba_ext
 rw [app_list];rfl
def BytR (N:List Nd) (Bs:List (List UInt8)) (i:Nat):Prop:=∀ x b,N[i]? = some x -> Bs[i]? = some b -> RdT 105 N (fun v => #[v,.int .i64 (i:Int)]) (.tuple #[.string (bs (el x b)),.bool true])
set_option maxHeartbeats 8000000 in
theorem bytes_step (N:List Nd) (Bs:List (List UInt8)) (S:List UInt8) (hW:Wr N Bs S) (hS:S.length <= 65000) (hn1:N.length <= 1000) (i:Nat) (ih:∀ j,i < j -> j < N.length -> BytR N Bs j):BytR N Bs i:=by
 intro x bd hx hbd w v h;have hi:i < N.length:=(List.getElem?_eq_some_iff.1 hx).1;have HT:=lH h;obtain ⟨b,o,c,rfl,-,-,b1,b2⟩:=treeform h (by omega);obtain ⟨A,q,m0,m1,m2,m3,m4,m5⟩:=b2 i x hx;have HS:=lH (Since.refl w);have HN:=lH (show N3 w b (o + i * 5) (.int .i64 x.c) (.int .i64 x.t) (.bool x.b) w from ⟨Since.refl w,b1,m0,m1,m2⟩);have B1:=lH b1;have M3:=lH m3;have M4:=lH m4;have K5:=lH m5;have i1:(i:Int) < (N.length:Int):=by omega
 have i2:(0:Int) <= (i:Int):=by omega
 have hkl:=IntsS.le K5.out;obtain ⟨f1,f2⟩:=hW.body i x hx;have hbd2:bd = x.d.data.toList ++ elsAt N Bs x.k:=Option.some.inj (hbd.symm.trans f1);have hbl:bd.length <= 65000:=Nat.le_trans (hW.bnd bd (List.mem_iff_getElem?.2 ⟨i,hbd⟩)) hS;obtain ⟨C,T,hC,hT,C3,T3⟩:=hW.nd x (List.mem_iff_getElem?.2 ⟨i,hx⟩);have F2:=lH f2;have HWR:=lH hW;have HBD:=lH hbd2;have HSS:=lH hS;have HIH:=lH ih;obtain ⟨xb,hxb⟩:∃ xb,xb = x.b:=⟨_,rfl⟩
 obtain ⟨D,hD⟩:∃ D,D = x.d:=⟨_,rfl⟩
 rw [hC,hT,<- hxb] at HN;rw [<- hD] at M3 m3;obtain ⟨R,hR⟩:∃ R,R = bs (el x bd):=⟨_,rfl⟩
 rw [<- hR];have hR2:R = bs (Head.encL C T xb bd.length) ++ bs bd:=by
   rw [hR,bs_app,hxb];unfold el;rw [hC,hT,Int.toNat_natCast,Int.toNat_natCast]
 have HR:=lH hR2;have HDD:=lH hD;clear h b2 m0 m1 m2 m4 m5 f1 f2 hW hS ih hx hbd hbd2 hR hR2 hC hT hxb b1 hD
 go_enter Tryz.func105,Tryz.ntmps105
 go_wp2_with fail;clear m3;go_loopw [6,7] (fun s j wr => ∃ (a:Nat) (V:ByteArray),j = .int .i64 (a:Int) /\ s = .string V /\ a <= x.k.length /\ Hid (V = bs (D.data.toList ++ elsAt N Bs (x.k.take a))) /\ Hid (Since w wr)) (fun _ j _ => x.k.length - (intOf j).toNat)
 case atStart => exact ⟨0,D,rfl,rfl,Nat.zero_le _,lH (by show D = bs (D.data.toList ++ []); rw [List.append_nil,bs_list]),HS⟩
 case round =>
   clear HS;obtain ⟨a,V,rfl,rfl,ha,hV,HS⟩:=hrel;have m4:=(Below.cell HS.out (p:=⟨b,o + i * 5 + 4,none⟩) B1.out).trans M4.out
   by_cases hlt:a < x.k.length
   · obtain ⟨bk,ok,dk,hv,-,-,l3,l4⟩:=K5.out.form (by omega);obtain ⟨rfl,-,rfl⟩:=Value.slice.inj hv;clear hv;obtain ⟨y,hy⟩:∃ y,x.k[a]? = some y:=⟨_,List.getElem?_eq_getElem hlt⟩
     obtain ⟨r1,r2⟩:=F2.out y (List.mem_iff_getElem?.2 ⟨a,hy⟩);obtain ⟨qq,rfl⟩:∃ qq:Nat,y = (qq:Int):=⟨y.toNat,by omega⟩
     have c9:=(Below.cell HS.out (p:=⟨bk,ok + a,none⟩) l3).trans (l4 a hlt);rw [show x.k.getD a 0 = (qq:Int) by simp [List.getD,hy]] at c9;have hqn:qq < N.length:=by omega
     obtain ⟨z,hz⟩:∃ z,N[qq]? = some z:=⟨_,List.getElem?_eq_getElem hqn⟩
     obtain ⟨bz,hbz⟩:∃ bz,Bs[qq]? = some bz:=⟨_,(HWR.out.body qq z hz).1⟩
     have cI:=HIH.out qq (by omega) hqn z bz hz hbz;obtain ⟨E,hE⟩:∃ E,E = bs (el z bz):=⟨_,rfl⟩
     rw [<- hE] at cI;have hstep:V ++ E = bs (D.data.toList ++ elsAt N Bs (x.k.take (a + 1))):=by
       rw [hV.out,hE,bs_app,elsAt_snoc N Bs x.k a _ hy,Int.toNat_natCast,elAt_eq hz hbz,List.append_assoc]
     have hsz:(V ++ E).size <= 65000:=by
       rw [hstep,size_bs];refine Nat.le_trans ?_ hbl;rw [HBD.out,HDD.out,List.length_append,List.length_append];refine Nat.add_le_add_left ?_ _
       conv => rhs; rw [<- List.take_append_drop (a + 1) x.k]
       unfold elsAt;rw [List.flatMap_append,List.length_append];omega
     have hsz2:=hsz;rw [ByteArray.size_append] at hsz2;have w1:¬ 9223372036854775807 < V.size + E.size:=by omega
     have t1:decide ((65535:Int) < ((V ++ E).size:Int)) = false:=decide_eq_false (by omega);have t2:decide (65535 < (V ++ E).size) = false:=decide_eq_false (by omega);have HST:=lH hstep;have HT2:=lH (HT.out.since HS.out);clear hy hz hbz hE hstep hsz hsz2 r1 r2 l4;go_wp2_with fail;refine cI.calls0 HT2.out ?_;intro w2 h2;replace HS:=lH (HS.out.step h2);clear h2 c9 m4 cI;obtain ⟨VE,hVE⟩:∃ VE,VE = V ++ E:=⟨_,rfl⟩
     rw [<- hVE] at HST t1 t2;have hVE2:=hVE.symm;clear hVE;go_wp2_with fail;go_roundw
     case rel => exact ⟨a + 1,VE,by go_num,rfl,by omega,HST,HS⟩
     case measure => (simp [intOf] <;> omega)
   · obtain rfl:a = x.k.length:=by omega
     have hV2:=hV.out;rw [List.take_length,HDD.out,<- HBD.out] at hV2;have hVs:V.size = bd.length:=by rw [hV2,size_bs]
     obtain ⟨X,hX⟩:∃ X,X = bs (Head.encL C T xb V.size):=⟨_,rfl⟩
     have hX7:=(Head.encL_len C T xb V.size)
     have hXs:X.size = (Head.encL C T xb V.size).length:=by rw [hX,size_bs]
     have c5:=RefHead.renc_ok C T V.size xb C3 T3 (by omega) X hX;have hfin:X ++ V = R:=by rw [HR.out,hX,hV2,size_bs]
     have hXl:X.size <= 100:=by omega
     have w1:¬ 9223372036854775807 < X.size + V.size:=by omega
     have t1:decide ((X.size:Int) + (V.size:Int) <= 65535) = true:=decide_eq_true (by omega);have t2:decide (X.size + V.size <= 65535) = true:=decide_eq_true (by omega);have hw:IntKind.i64.wrap ((X.size:Int) + (V.size:Int)) = (X.size:Int) + (V.size:Int):=IntWalk.i64_in _ (by omega);have hN:=n3step HS.out HN;have HF:=lH hfin;have hVb:V.size <= 65000:=by omega
     clear hX hX7 hXs hV2 hfin C3 T3 hbl hVs;go_wp2_with fail;obtain ⟨_,z0,z1,z2⟩:=n3all hN
     go_region_held3 (fun W' => Hid (N3 w b (o + i * 5) (.int .i64 (C:Int)) (.int .i64 (T:Int)) (.bool xb) W') /\ W'.cell? ⟨b,o + i * 5,none⟩ = some (.int .i64 (C:Int)) /\ W'.cell? ⟨b,o + i * 5 + 1,none⟩ = some (.int .i64 (T:Int)) /\ W'.cell? ⟨b,o + i * 5 + 2,none⟩ = some (.bool xb))
       (first | exact n3all (by assumption) | exact n3all (n3drew (by assumption)))
       (first | (go_at_call 131; refine (c5 _).mono ?_; rintro e w5 ⟨rfl,h5⟩; have hN5:Hid (N3 w b (o + i * 5) (.int .i64 (C:Int)) (.int .i64 (T:Int)) (.bool xb) w5):=n3step h5 (by first | assumption | exact n3drew (by assumption)); clear h5))
     all_goals
       clear z0 z1 z2 m4;go_wp2_with fail;go_ret2;exact ⟨by rw [<- HF.out]; rfl,hN5.out.since⟩
theorem bytes_all (N:List Nd) (Bs:List (List UInt8)) (S:List UInt8) (hW:Wr N Bs S) (hS:S.length <= 65000) (hn1:N.length <= 1000):∀ m i,N.length - i <= m -> BytR N Bs i:=by
 intro m
 induction m with
 | zero =>
   intro i h x b hx;have:=(List.getElem?_eq_some_iff.1 hx).1;omega
 | succ m ih => exact fun i h => bytes_step N Bs S hW hS hn1 i (fun j h1 h2 => ih j (by omega))
theorem bytes_root (N:List Nd) (Bs:List (List UInt8)) (S:List UInt8) (hW:Wr N Bs S) (hS:S.length <= 65000) (hn1:N.length <= 1000):RdT 105 N (fun v => #[v,.int .i64 0]) (.tuple #[.string (bs S),.bool true]):=by
 obtain ⟨y,hy⟩:∃ y,N[0]? = some y:=⟨_,List.getElem?_eq_getElem hW.pos⟩
 have h1:=bytes_all N Bs S hW hS hn1 _ 0 (Nat.le_refl _) y _ hy (hW.body 0 y hy).1;rw [<- elAt_eq hy (hW.body 0 y hy).1,hW.root] at h1;exact h1
theorem renc_yes (N:List Nd) (R:ByteArray) (c1:RdT 104 N (fun v => #[v]) (.bool true)) (c2:RdT 105 N (fun v => #[v,.int .i64 0]) (.tuple #[.string R,.bool true])):RdT 58 N (fun v => #[v]) (.tuple #[.string R,.int .i64 0]):=by
 intro w v h;have HS:=lH (Since.refl w);have HT:=lH h;clear h
 go_enter Tryz.func58,Tryz.ntmps58
 go_wp2_with fail;refine c1.calls0 HT.out ?_;intro w1 h1;replace HS:=lH (HS.out.step h1);replace HT:=lH (HT.out.since h1);clear h1;go_wp2_with fail;refine c2.calls0 HT.out ?_;intro w2 h2;replace HS:=lH (HS.out.step h2);clear h2;go_wp2_with fail;go_ret2;exact ⟨rfl,HS.out⟩
end Tree
end Go.Proofs.YtpanhhjkecebkaaGreat
