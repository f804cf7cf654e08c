import Derived.Test.YtpanhhjkecebkaaGreatAp39
import Derived.Test.YtpanhhjkecebkaaGreatAp17
set_option maxRecDepth 100000
namespace Go.Proofs.YtpanhhjkecebkaaGreat
open Go.RowKit
namespace Tree
open Tlv Strs Rw
theorem own_base {W:World} {base base':Nat} {e:TypeId} {k:Nat} {v:Value} {n:Nat} {xs:List Value} (h:W.ownsRow base e k v n xs) (hb:base' <= base):W.ownsRow base' e k v n xs:=by
 obtain ⟨h1,h2⟩:=h
 refine ⟨h1, ?_⟩
 rcases h2 with h2 | ⟨g,cap,cur,hv,hb2,hr⟩
 · exact .inl h2
 · exact .inr ⟨g,cap,cur,hv,Nat.le_trans hb hb2,hr⟩
theorem rows_fresh {W W':World} {base:Nat} {rs:List Row} (h:Rw.Rows W base rs) (hs:Since W W') (r:Row) (hr:r.own W' W.heap.size) (hb:base <= W.heap.size):Rw.Rows W' base (r :: rs):=by
 have h2:=h.since hs
 refine ⟨fun x hx => ?_,List.pairwise_cons.2 ⟨fun x hx g h3 h4 => ?_,h.apart⟩⟩
 · rcases List.mem_cons.1 hx with rfl | hx
   · exact own_base hr hb
   · exact h2.own x hx
 · have h5:=(World.ownsRow.lt hr g h3).1
   have h6:=(World.ownsRow.lt (h.own x hx) g h4).2
   omega
theorem rows_last {w:World} {base:Nat} {rs:List Row} {r:Row} (h:Rw.Rows w base (r :: rs)):Rw.Rows w base (rs ++ [r]):=by
 obtain ⟨ho,ha⟩:=h
 refine ⟨fun x hx => ho x (by
   rcases List.mem_append.1 hx with hx | hx
   · exact List.mem_cons_of_mem _ hx
   · rw [List.mem_singleton.1 hx]; exact List.mem_cons_self), ?_⟩
 rw [List.pairwise_append]
 exact ⟨(List.pairwise_cons.1 ha).2,by simp,fun a h1 b h2 => by rw [List.mem_singleton.1 h2]; exact ((List.pairwise_cons.1 ha).1 a h1).symm⟩
theorem own_lone {W':World} {B g:Nat} {t:TypeId} {C:List Value} (hb:B <= g) (hg:W'.heap[g]? = some (.cells C.toArray t (0,0))):(RwL.lone t g C).own W' B :=
 ⟨by simp [RwL.lone],.inr ⟨g,1,C.toArray,rfl,hb,hg,Nat.le_refl _,by decide,by simp [RwL.lone],by simp [RwL.lone]⟩⟩
set_option maxHeartbeats 4000000 in
theorem rmoved_own (ks:List Int) (n:Int) (hl:ks.length <= 100000) (hn:-1000000 <= n /\ n <= 1000000) (hk:∀ a ∈ ks,-1000000 <= a /\ a <= 1000000) (w:World) (x:Value) (hx:IntsS w x ks):Calls Tryz.prog 103 #[x,.int .i64 n] w fun e w' => ∃ A c,e = .returned (.slice A ks.length c) /\ w'.ownsRow w.heap.size 3 1 (.slice A ks.length c) ks.length ((ks.map (· + n)).map (Value.int .i64)) /\ Since w w':=by
 have HX:=lH hx
 have HK:=lH hk
 have HS:=lH (Since.refl w)
 obtain ⟨A,q,rfl,-,-⟩:=hx.slice
 have hle:=IntsS.le hx
 clear hx hk
 go_enter Tryz.func103,Tryz.ntmps103
 go_wp2_with fail
 go_loopw [5,6] (fun V i wr => ∃ a:Nat,i = .int .i64 (a:Int) /\ a <= ks.length /\ Hid (wr.ownsRow w.heap.size 3 1 V a (((ks.take a).map (· + n)).map (Value.int .i64))) /\ Hid (Since w wr)) (fun _ i _ => ks.length - (intOf i).toNat)
 case atStart => exact ⟨0,rfl,Nat.zero_le _,lH (World.ownsRow_nil _ _ _ _),HS⟩
 case round =>
   clear HS
   obtain ⟨a,rfl,ha,HO,HS⟩:=hrel
   by_cases hlt:a < ks.length
   · obtain ⟨bk,ok,dk,hv,-,-,l3,l4⟩:=HX.out.form (by omega)
     obtain ⟨rfl,-,rfl⟩:=Value.slice.inj hv
     clear hv
     obtain ⟨y,hy⟩:∃ y,ks[a]? = some y:=⟨_,List.getElem?_eq_getElem hlt⟩
     have c9:=(Below.cell HS.out (p:=⟨bk,ok + a,none⟩) l3).trans (l4 a hlt)
     rw [show ks.getD a 0 = y by simp [List.getD,hy]] at c9
     have hyb:=HK.out y (List.mem_iff_getElem?.2 ⟨a,hy⟩)
     have hw:IntKind.i64.wrap (y + n) = y + n:=IntWalk.i64_in _ (by omega)
     have etk:((ks.take a).map (· + n)).map (Value.int .i64) ++ [Value.int .i64 (y + n)] = ((ks.take (a + 1)).map (· + n)).map (Value.int .i64):=by
       obtain ⟨g1,g2⟩:=List.getElem?_eq_some_iff.1 hy
       rw [List.take_succ_eq_append_getElem g1,g2,List.map_append,List.map_append]
       rfl
     have HE:=lH etk
     have HB:=lH (show a <= 1099511627776 by omega)
     clear hy l4 etk
     go_wp2_with (at_builtin; refine app_one_k elemT rfl _ _ (by rfl) w _ _ a _ (by rfl) HO.out HS.out (.int .i64 (y + n)) (by rfl) rfl HB.out (by decide) ?_; intro V2 W2 h2 h3 _; rw [HE.out] at h2)
     have HO2:=lH h2
     have HS2:=lH h3
     clear h2 h3
     go_wp2_with fail
     go_roundw
     case rel => exact ⟨a + 1,by go_num,by omega,HO2,HS2⟩
     case measure => (simp [intOf] <;> omega)
   · obtain rfl:a = ks.length:=by omega
     have hO:=HO.out
     rw [List.take_length] at hO
     obtain ⟨A2,c2,hv2⟩:=own_any hO
     subst hv2
     have HO2:=lH hO
     clear hO
     go_wp2_with fail
     go_ret
     exact ⟨A2,c2,rfl,HO2.out,HS.out⟩
end Tree
namespace Tree
open Tlv Strs Rw
def TreesS (W:World) (v:Value) (Ns:List (List Nd)):Prop:=∃ vs:List Value,SlR W 1 v Ns.length vs /\ ∀ (j:Nat) x N,vs[j]? = some x -> Ns[j]? = some N -> TreeS W x N
theorem TreesS.slice {W:World} {v:Value} {Ns:List (List Nd)} (h:TreesS W v Ns):∃ A c,v = .slice A Ns.length c /\ Ns.length <= c /\ c <= maxLen:=by
 obtain ⟨vs,h1,h2⟩:=h
 exact SlR.slice h1
theorem TreesS.form {W:World} {v:Value} {Ns:List (List Nd)} (h:TreesS W v Ns) (hn:0 < Ns.length):∃ b o c,v = .slice (some ⟨b,o,none⟩) Ns.length c /\ b < W.heap.size /\ ∀ (j:Nat) N,Ns[j]? = some N -> ∃ x,W.cell? ⟨b,o + j,none⟩ = some x /\ TreeS W x N:=by
 obtain ⟨vs,h1,h2⟩:=h
 obtain ⟨b,o,c,hv,-,-,h3,h4⟩:=SlR.form h1 hn
 refine ⟨b,o,c,hv,h3,fun j N hj => ?_⟩
 have hl:vs.length = Ns.length:=by have:=h1.1; omega
 have hjl:=(List.getElem?_eq_some_iff.1 hj).1
 exact ⟨vs[j],h4 j _ (List.getElem?_eq_getElem (by omega)),h2 j _ N (List.getElem?_eq_getElem (by omega)) hj⟩
end Tree
namespace Tree
open Tlv Strs Rw
theorem rows_merge {W W':World} {base:Nat} {rs rs':List Row} (h:Rw.Rows W base rs) (hs:Since W W') (h':Rw.Rows W' W.heap.size rs') (hb:base <= W.heap.size):Rw.Rows W' base (rs ++ rs'):=by
 refine ⟨fun x hx => ?_, ?_⟩
 · rcases List.mem_append.1 hx with hx | hx
   · exact (h.since hs).own x hx
   · exact own_base (h'.own x hx) hb
 · rw [List.pairwise_append]
   refine ⟨h.apart,h'.apart,fun a ha b hb g h3 h4 => ?_⟩
   have h5:=(World.ownsRow.lt (h.own a ha) g h3).2
   have h6:=(World.ownsRow.lt (h'.own b hb) g h4).1
   omega
theorem app_from {T E:TypeId} {z:Value} {size bytes:Nat} (I:ElemIs T E z size bytes) {ops:Array Oper} {rest:List Oper} {o:Oper} {a:Act} {Q:Exit -> Act -> World -> Prop} (hgd:o.guard = none) (s x:Operand)
   (ho:o.op = .call { callee:=.builtin .append,args:=#[s,x],argTypes:=#[T,T] })
   (w0 wr:World) (A B:List Row) (v:Value) (n:Nat) (xs:List Value) (hs:a.eval s = v) (hown:Rw.Rows wr w0.heap.size (A ++ ⟨E,size,v,n,xs⟩ :: B)) (hS:Since w0 wr)
   (ad:Addr) (cells:List Value) (c m:Nat) (hx:a.eval x = .slice (some ad) m c) (hl:cells.length = m * size) (hcell:∀ j u,cells[j]? = some u -> wr.cell? (ad.add j) = some u) (h1:∀ u ∈ cells,u.oneCell' = true)
   (h63:n + m <= maxLen) (hbytes:(n + m) * bytes <= 140737488355328)
   (h:∀ v' w',Rw.Rows w' w0.heap.size (A ++ ⟨E,size,v',n + m,xs ++ cells⟩ :: B) -> Since w0 w' -> wpList Tryz.prog ops Q rest (a.put o.dst v') w') :
   wpList Tryz.prog ops Q (o :: rest) a wr:=by
 obtain ⟨ht,hi,hz,hs0⟩:=I
 obtain ⟨i,hi1,hi2⟩:=Option.map_eq_some_iff.1 hi
 simp only [Prod.mk.injEq] at hi2
 have hown1:=hown.get
 have h9:=Below.size hS
 refine wpList_append_own_at (w:=wr) hgd s x T ho w0.heap.size E i z size bytes ht hi1 hi2.1 hi2.2.1 hi2.2.2 hz hs0 v n xs hs hown1 ad m c cells hx hl hcell h1 h63 hbytes h9 ?_
 intro v' w' ho' hg _ hw
 refine h v' w' (hown.turn ⟨E,size,v',n + m,xs ++ cells⟩ ho' fun u hu hap => ⟨?_, ?_⟩) ?_
 · refine World.ownsRow.kept hu hg ?_
   cases hub:u.v.ownBlock with
   | none => exact Or.inl rfl
   | some g => exact Or.inr fun e => hap g e.symm hub
 · intro g h2 h3
   rcases hw with hw | hw
   · exact hap g (hw ▸ h2) h3
   · rw [show (⟨E,size,v',n + m,xs ++ cells⟩:Row).v = v' from rfl,hw] at h2
     cases h2
     have h4:=(World.ownsRow.lt hu _ h3).2
     omega
 · exact Below.grown hS hg h9 (fun k hk => (hown1.lt k hk).1)
theorem rows_sub {W:World} {base:Nat} {rs rs':List Row} (h:Rw.Rows W base rs) (hs:rs'.Sublist rs):Rw.Rows W base rs':=⟨fun r hr => h.own r (hs.subset hr),h.apart.sublist hs⟩
theorem fold_snoc (h0:List Nd) (Ns:List (List Nd)) (a:Nat) (N:List Nd) (h:Ns[a]? = some N):(Ns.take (a + 1)).foldl stepN h0 = stepN ((Ns.take a).foldl stepN h0) N:=by
 obtain ⟨h1,h2⟩:=List.getElem?_eq_some_iff.1 h
 rw [List.take_succ_eq_append_getElem h1,List.foldl_append,h2]
 rfl
set_option maxHeartbeats 8000000 in
theorem of_mk (c t:Int) (Ns:List (List Nd)) (hF:∀ N ∈ Ns,Fair N) (hnl:Ns.length <= 1000) (hsum:∀ a,((Ns.take a).foldl stepN [⟨c,t,true,⟨#[]⟩,[]⟩]).length <= 10000) (hks:∀ a,∀ x ∈ (Ns.take a).foldl stepN [⟨c,t,true,⟨#[]⟩,[]⟩],x.k.length <= 100000) (w:World) (P:Value) (hP:TreesS w P Ns):Calls Tryz.prog 54 #[.int .i64 c,.int .i64 t,P] w fun e w' => ∃ v',e = .returned v' /\ TreeS w' v' (ofN c t Ns) /\ Since w w':=by
 have HP:=lH hP
 have HS:=lH (Since.refl w)
 obtain ⟨PA,pc,rfl,hp1,hp2⟩:=hP.slice
 have HFF:=lH hF
 have HSM:=lH hsum
 have HKS:=lH hks
 clear hP hF hsum hks
 go_enter Tryz.func54,Tryz.ntmps54
 go_wp2_with fail
 have hR0:Hid (Rw.Rows (w.alloc (.cells #[.int .i64 c,.int .i64 t,.bool true,.string ⟨#[]⟩,.slice none 0 0] 87)) w.heap.size (⟨87,5,.slice (some ⟨w.heap.size,0,none⟩) 1 1,1,[((⟨c,t,true,⟨#[]⟩,[]⟩:Nd),Value.slice none 0 0)].flatMap nc⟩ :: [((⟨c,t,true,⟨#[]⟩,[]⟩:Nd),Value.slice none 0 0)].map kr)):=lH (by
   refine ⟨fun r hr => ?_,List.pairwise_cons.2 ⟨fun r hr => ?_,by simp⟩⟩
   · rcases List.mem_cons.1 hr with rfl | hr
     · exact own_lone (C:=[.int .i64 c,.int .i64 t,.bool true,.string ⟨#[]⟩,.slice none 0 0]) (Nat.le_refl _) (heap_alloc_new w _)
     · rw [List.mem_singleton.1 hr]
       exact World.ownsRow_nil _ _ _ _
   · rw [List.mem_singleton.1 hr]
     exact Rw.Apart.none.symm)
 have HS0:=lH ((Since.refl w).alloc (.cells #[.int .i64 c,.int .i64 t,.bool true,.string ⟨#[]⟩,.slice none 0 0] 87))
 clear HS
 go_loopw [7,16] (fun V i wr => ∃ (a:Nat) (E:List (Nd × Value)),i = .int .i64 (a:Int) /\ a <= Ns.length /\ 0 < E.length /\ Hid (E.map Prod.fst = (Ns.take a).foldl stepN [⟨c,t,true,⟨#[]⟩,[]⟩]) /\ Hid (Rw.Rows wr w.heap.size (⟨87,5,V,E.length,E.flatMap nc⟩ :: E.map kr)) /\ Hid (Since w wr)) (fun _ i _ => Ns.length - (intOf i).toNat)
 case atStart => exact ⟨0,[((⟨c,t,true,⟨#[]⟩,[]⟩:Nd),Value.slice none 0 0)],rfl,Nat.zero_le _,Nat.zero_lt_one,lH rfl,hR0,HS0⟩
 case round =>
   clear HS0 hR0
   obtain ⟨a,E,rfl,ha,hE0,hE,HR,HS⟩:=hrel
   obtain ⟨g,cc,hV,hc1,hc2⟩:=own_form (HR.out.own _ List.mem_cons_self) hE0
   dsimp only at hV
   subst hV
   by_cases hlt:a < Ns.length
   · obtain ⟨b,o,c9,hv,l3,l4⟩:=HP.out.form (by omega)
     obtain ⟨rfl,-,rfl⟩:=Value.slice.inj hv
     clear hv
     obtain ⟨M,hM⟩:∃ M,Ns[a]? = some M:=⟨_,List.getElem?_eq_getElem hlt⟩
     obtain ⟨x,hx1,hx2⟩:=l4 a M hM
     have n0:=(Below.cell HS.out (p:=⟨b,o + a,none⟩) l3).trans hx1
     have HX:=lH hx2
     have hfs:=fold_snoc [⟨c,t,true,⟨#[]⟩,[]⟩] Ns a M hM
     rw [<- hE.out] at hfs
     have HFS:=lH hfs
     have hMF:=HFF.out M (List.mem_iff_getElem?.2 ⟨a,hM⟩)
     obtain ⟨XA,xc,rfl,-,-⟩:=hx2.slice
     by_cases hM0:M.length = 0
     · have t1:decide ((0:Int) < (M.length:Int)) = false:=decide_eq_false (by omega)
       have t2:decide (0 < M.length) = false:=decide_eq_false (by omega)
       have hE2:Hid (E.map Prod.fst = (Ns.take (a + 1)).foldl stepN [⟨c,t,true,⟨#[]⟩,[]⟩]):=lH (by
         rw [HFS.out]
         unfold stepN
         rw [if_pos hM0])
       clear l4 hx1 hx2 hM hfs
       go_wp2_with fail
       go_roundw
       case rel => exact ⟨a + 1,E,by go_num,by omega,hE0,hE2,HR,HS⟩
       case measure => (simp [intOf] <;> omega)
     · have t1:decide ((0:Int) < (M.length:Int)) = true:=decide_eq_true (by omega)
       have t2:decide (0 < M.length) = true:=decide_eq_true (by omega)
       obtain ⟨⟨hd,kv⟩,E',rfl⟩:∃ y E',E = y :: E':=by
         cases E with
         | nil => exact absurd hE0 (Nat.lt_irrefl _)
         | cons y E' => exact ⟨y,E',rfl⟩
       have hlenE:E'.length + 1 <= 10000:=by
         have h9:=HSM.out a
         rw [<- hE.out,List.length_map] at h9
         exact h9
       have hkl:hd.k.length <= 100000:=by
         have h9:=HKS.out a hd
         rw [<- hE.out] at h9
         exact h9 (by simp)
       have hRk:=HR.out.own (kr (hd,kv)) (by simp)
       obtain ⟨kA,kc,hkv⟩:∃ A c,kv = .slice A hd.k.length c:=own_any hRk
       subst hkv
       have o2:=((own_cells (HR.out.own _ List.mem_cons_self)).2.2 4 (.slice kA hd.k.length kc) rfl).1
       obtain ⟨m,hm⟩:∃ m,m = E'.length + 1:=⟨_,rfl⟩
       have hRR:Rw.Rows wr w.heap.size (([⟨87,5,.slice (some ⟨g,0,none⟩) m cc,m,((hd,.slice kA hd.k.length kc) :: E').flatMap nc⟩]:List Row) ++ ⟨3,1,.slice kA hd.k.length kc,hd.k.length,hd.k.map (Value.int .i64)⟩ :: E'.map kr):=by
         rw [hm]
         exact HR.out
       have HRR:=lH hRR
       have HB1:=lH (show hd.k.length + 1 <= maxLen by unfold maxLen; omega)
       have HB2:=lH (show (hd.k.length + 1) * 8 <= 140737488355328 by omega)
       have hm1:0 < m:=by omega
       have x1:(0:Int) < (m:Int):=by omega
       have HM1:=lH (show 4 < m * 5 by omega)
       have hm3:m <= 10000:=by omega
       have HMM:=lH hm
       have e8:((hd,Value.slice kA hd.k.length kc) :: E').length = m:=by rw [hm]; rfl
       rw [e8]
       clear l4 hx1 hx2 hM hfs hRR HR hRk e8 hlenE hE0 hm
       have tok1:True:=trivial
       go_wp2_with (first
         | (at_builtin; have _t:=tok1; refine app_rows elemT rfl _ _ (by rfl) w wr _ rfl _ _ (.slice kA hd.k.length kc) hd.k.length _ (by rfl) HRR.out HS.out #[.int .i64 (m:Int)] 1 1 (by rfl) rfl (by intro v hv; simp at hv; subst hv; rfl) HB1.out HB2.out ?_; intro kv2 w6 HQ1 HT1 hk1; obtain ⟨ka,kc2,rfl⟩:∃ A c,kv2 = .slice A (hd.k.length + 1) c:=own_any HQ1.get; have HR6:=lH HQ1; have HS6:=lH HT1; clear HQ1 HT1 hk1 tok1 o2 n0)
         | (refine RwL.store_rows rfl 44 _ _ (by rfl) intl_one w w6 [] (⟨3,1,.slice ka (hd.k.length + 1) kc2,hd.k.length + 1,hd.k.map (Value.int .i64) ++ ([.int .i64 (m:Int)]:List Value)⟩ :: E'.map kr) 87 5 g m cc _ HR6.out HS6.out 4 HM1.out (by rfl) (.slice ka (hd.k.length + 1) kc2) (by rfl) rfl ?_; intro w7 HQ2 HT2 hk2))
       have HS7:=lH HT2
       have HQ3:=lH HQ2
       clear HQ2 HT2 hk2 HR6 HS6
       refine (moved_o M hMF (by omega) (m:Int) (by omega) w7 _ (HX.out.since HS7.out)).mono ?_
       rintro _ w8 ⟨v8,rfl,hO,h8⟩
       obtain ⟨g',m',D',rfl,hR',hD',hM'⟩:=hO
       have hmm':m' = M.length:=by rw [<- hD',<- List.length_map (f:=Prod.fst),hM',List.length_map]
       have hmg:=rows_merge HQ3.out h8 hR' (Below.size HS7.out)
       have HS8:=lH (HS7.out.step h8)
       have hcl:=(own_cells (hR'.own _ (show (⟨87,5,.slice (some ⟨g',0,none⟩) m' m',m',(D' ++ []).flatMap nc⟩:Row) ∈ mrows g' m' D' [] from List.mem_cons_self))).2.2
       rw [List.append_nil] at hcl
       have HCL:=lH hcl
       have HMG:=lH (show Rw.Rows w8 w.heap.size ([] ++ ⟨87,5,.slice (some ⟨g,0,none⟩) m cc,m,(((hd,.slice kA hd.k.length kc) :: E').flatMap nc).set 4 (.slice ka (hd.k.length + 1) kc2)⟩ :: (⟨3,1,.slice ka (hd.k.length + 1) kc2,hd.k.length + 1,hd.k.map (Value.int .i64) ++ ([.int .i64 (m:Int)]:List Value)⟩ :: E'.map kr ++ mrows g' m' D' [])) from hmg)
       have HDL:=lH (show (D'.flatMap nc).length = m' * 5 by rw [flat_nc_len,hD'])
       have HON:=lH (flat_nc_one D' fun x hx => by
         have h9:=hR'.own (kr x) (List.mem_cons_of_mem _ (List.mem_map.2 ⟨x,hx,rfl⟩))
         obtain ⟨A9,c9,h9⟩:∃ A c,x.2 = .slice A x.1.k.length c:=own_any h9
         rw [h9]
         rfl)
       have HB3:=lH (show m + m' <= maxLen by have:=hMF.len; unfold maxLen; omega)
       have HB4:=lH (show (m + m') * 64 <= 140737488355328 by have:=hMF.len; omega)
       have HM':=lH hM'
       have HD':=lH hD'
       clear hmg hR' hD' hM' h8 hcl HQ3 HS7 hmm'
       go_wp2_with (at_builtin; refine app_from elemN rfl _ _ (by rfl) w w8 [] _ _ m _ (by rfl) HMG.out HS8.out ⟨g',0,none⟩ (D'.flatMap nc) m' m' (by rfl) HDL.out (fun j u hu => by rw [Addr.add_mid,Nat.zero_add]; exact (HCL.out j u hu).1) HON.out HB3.out HB4.out ?_; intro V9 w9 HQ9 HT9)
       have hst:(((hd,Value.slice kA hd.k.length kc) :: E').flatMap nc).set 4 (.slice ka (hd.k.length + 1) kc2) = ((({ hd with k:=hd.k ++ [(m:Int)] }:Nd),Value.slice ka (hd.k.length + 1) kc2) :: E').flatMap nc:=mset [] E' hd (.slice kA hd.k.length kc) (.slice ka (hd.k.length + 1) kc2) (hd.k ++ [(m:Int)])
       rw [hst] at HQ9
       have hfin:Rw.Rows w9 w.heap.size (⟨87,5,V9,(((({ hd with k:=hd.k ++ [(m:Int)] }:Nd),Value.slice ka (hd.k.length + 1) kc2) :: E') ++ D').length,(((({ hd with k:=hd.k ++ [(m:Int)] }:Nd),Value.slice ka (hd.k.length + 1) kc2) :: E') ++ D').flatMap nc⟩ :: (((({ hd with k:=hd.k ++ [(m:Int)] }:Nd),Value.slice ka (hd.k.length + 1) kc2) :: E') ++ D').map kr):=by
         have e1:(((({ hd with k:=hd.k ++ [(m:Int)] }:Nd),Value.slice ka (hd.k.length + 1) kc2) :: E') ++ D').length = m + m':=by
           rw [List.length_append,HD'.out,HMM.out]
           rfl
         have e2:kr (({ hd with k:=hd.k ++ [(m:Int)] }:Nd),Value.slice ka (hd.k.length + 1) kc2) = ⟨3,1,.slice ka (hd.k.length + 1) kc2,hd.k.length + 1,hd.k.map (Value.int .i64) ++ ([.int .i64 (m:Int)]:List Value)⟩:=by
           unfold kr
           simp
         rw [e1,List.flatMap_append,List.map_append,List.map_cons,e2]
         refine rows_sub HQ9 (List.Sublist.cons_cons _ ?_)
         refine List.Sublist.append (List.Sublist.refl _) ?_
         exact List.sublist_cons_self _ _
       have HF9:=lH hfin
       have HS9:=lH HT9
       have HE9:Hid ((((({ hd with k:=hd.k ++ [(m:Int)] }:Nd),Value.slice ka (hd.k.length + 1) kc2) :: E') ++ D').map Prod.fst = (Ns.take (a + 1)).foldl stepN [⟨c,t,true,⟨#[]⟩,[]⟩]):=lH (by
         rw [HFS.out,List.map_append,HM'.out]
         unfold stepN
         rw [if_neg hM0,List.length_map,show ((hd,Value.slice kA hd.k.length kc) :: E').length = m from by rw [HMM.out]; rfl]
         rfl)
       clear hfin HQ9 HT9 hst
       go_wp2_with fail
       go_roundw
       case rel => exact ⟨a + 1,_,by go_num,by omega,by rw [List.length_append]; exact Nat.lt_of_lt_of_le (Nat.zero_lt_succ _) (Nat.le_add_right _ _),HE9,HF9,HS9⟩
       case measure => (simp [intOf] <;> omega)
   · obtain rfl:a = Ns.length:=by omega
     have hT:TreeS wr (.slice (some ⟨g,0,none⟩) E.length cc) (ofN c t Ns):=⟨E,⟨SlR.own (HR.out.own _ List.mem_cons_self),fun x hx => by
       have h9:=HR.out.own (kr x) (List.mem_cons_of_mem _ (List.mem_map.2 ⟨x,hx,rfl⟩))
       have h8:SlR wr 1 x.2 x.1.k.length (x.1.k.map (Value.int .i64)):=SlR.own h9
       exact h8⟩,by rw [hE.out,List.take_length]; rfl⟩
     have HT:=lH hT
     clear hT
     go_wp2_with fail
     go_ret
     exact ⟨_,rfl,HT.out,HS.out⟩
end Tree
end Go.Proofs.YtpanhhjkecebkaaGreat
namespace Go.Proofs.YtpanhhjkecebkaaGreat
namespace Tlv
theorem look_err {R:Int -> ByteArray -> Bool} {s:ByteArray} {p e deep cnt c:Nat} (h:look R s p e deep cnt = .error c):c ≠ 0:=by
 unfold look at h
 obtain ⟨hh,k,x,hq⟩:∃ hh k x,Head.dec (s.extract p e).data.toList = (hh,k,x):=⟨_,_,_,rfl⟩
 rw [hq] at h
 dsimp only at h
 by_cases hx:x ≠ 0
 · rw [if_pos hx] at h; cases h; exact hx
 rw [if_neg hx] at h
 split at h
 · cases h; decide
 split at h
 · cases h; decide
 split at h
 · cases h; decide
 split at h
 · cases h
 · cases h; decide
theorem dec_err {R:Int -> ByteArray -> Bool} {s:ByteArray}:∀ (f p e deep cnt c q:Nat),p <= s.size -> e <= s.size -> dec R s f p e deep cnt = .error (c,q) -> c ≠ 0 /\ q <= s.size:=by
 intro f
 induction f with
 | zero => intro p e deep cnt c q hp _ h; cases h; exact ⟨by decide,hp⟩
 | succ f ih =>
   intro p e deep cnt c q hp he h
   unfold dec at h
   by_cases hpe:e <= p
   · rw [if_pos hpe] at h; cases h
   rw [if_neg hpe] at h
   cases hl:look R s p e deep cnt with
   | error c' => rw [hl] at h; cases h; exact ⟨look_err hl,hp⟩
   | ok x =>
     obtain ⟨hh,k⟩:=x
     have lk:=look_ok hl
     have l1:=lk.fit
     rw [hl] at h
     dsimp only at h
     split at h
     · cases h1:dec R s f (p + k) (p + k + hh.n) (deep + 1) (cnt + 1) with
       | error y => rw [h1] at h; cases h; exact ih _ _ _ _ _ _ (by omega) (by omega) h1
       | ok ks =>
         rw [h1] at h
         dsimp only at h
         cases h2:dec R s f (p + k + hh.n) e deep (cnt + 1 + ks.cnt) with
         | error y => rw [h2] at h; cases h; exact ih _ _ _ _ _ _ (by omega) he h2
         | ok nx => rw [h2] at h; cases h
     · cases h2:dec R s f (p + k + hh.n) e deep (cnt + 1) with
       | error y => rw [h2] at h; cases h; exact ih _ _ _ _ _ _ (by omega) he h2
       | ok nx => rw [h2] at h; cases h
theorem top_err_ok {R:Int -> ByteArray -> Bool} {s:ByteArray} {c p:Nat} (h:top R s = .error (c,p)):c ≠ 0 /\ p <= s.size:=by
 unfold top at h
 split at h
 · cases h; exact ⟨by decide,Nat.zero_le _⟩
 split at h
 · cases h; exact ⟨by decide,Nat.zero_le _⟩
 unfold one at h
 cases hl:look R s 0 s.size 1 0 with
 | error c' => rw [hl] at h; cases h; exact ⟨look_err hl,Nat.zero_le _⟩
 | ok x =>
   obtain ⟨hh,k⟩:=x
   have lk:=look_ok hl
   have l1:=lk.fit
   rw [hl] at h
   dsimp only at h
   cases hb:hh.b with
   | true =>
     rw [hb] at h
     simp only [if_true] at h
     cases h1:decA R s (0 + k) (0 + k + hh.n) (1 + 1) (0 + 1) with
     | error y => rw [h1] at h; cases h; exact dec_err _ _ _ _ _ _ _ (by omega) (by omega) h1
     | ok ks =>
       rw [h1] at h
       dsimp only at h
       split at h
       · cases h; exact ⟨by decide,by omega⟩
       · cases h
   | false =>
     rw [hb] at h
     simp only [Bool.false_eq_true,if_false] at h
     split at h
     · cases h; exact ⟨by decide,by omega⟩
     · cases h
theorem top_some {R:Int -> ByteArray -> Bool} {s:ByteArray} {g:F} (h:top R s = .ok g):0 < s.size /\ s.size <= 65535:=by
 unfold top at h
 split at h
 · cases h
 split at h
 · cases h
 omega
end Tlv
end Go.Proofs.YtpanhhjkecebkaaGreat
namespace Go.Proofs.YtpanhhjkecebkaaGreat
namespace Tree
open Tlv
theorem dec_okF (R:Int -> ByteArray -> Bool) (s:ByteArray):∀ (f p e deep cnt:Nat) (g:F),dec R s f p e deep cnt = .ok g -> okF R g /\ (g.deep = 0 ∨ deep + g.deep <= 17) /\ (g.cnt = 0 ∨ cnt + g.cnt <= 1000):=by
 intro f
 induction f with
 | zero => intro p e deep cnt g h; cases h
 | succ f ih =>
   intro p e deep cnt g h
   unfold dec at h
   split at h
   · cases h
     exact ⟨trivial,.inl rfl,.inl rfl⟩
   · cases hl:Tlv.look R s p e deep cnt with
     | error c => rw [hl] at h; cases h
     | ok x =>
       obtain ⟨hd,k⟩:=x
       have hk:=look_ok hl
       have k1:=hk.c3
       have k2:=hk.tm
       have k3:=hk.deep
       have k4:=hk.cnt
       have k5:=hk.form
       rw [hl] at h
       simp only at h
       unfold formB at k5
       split at h
       · rename_i hb
         rw [if_pos hb] at k5
         simp only [Bool.or_eq_true,decide_eq_true_eq] at k5
         cases hq:dec R s f (p + k) (p + k + hd.n) (deep + 1) (cnt + 1) with
         | error x => rw [hq] at h; cases h
         | ok ks =>
           rw [hq] at h
           simp only at h
           cases hq2:dec R s f (p + k + hd.n) e deep (cnt + 1 + ks.cnt) with
           | error x => rw [hq2] at h; cases h
           | ok nx =>
             rw [hq2] at h
             cases h
             obtain ⟨a1,a2,a3⟩:=ih _ _ _ _ _ hq
             obtain ⟨b1,b2,b3⟩:=ih _ _ _ _ _ hq2
             refine ⟨⟨k1,k2, ?_,a1,b1⟩,.inr ?_,.inr ?_⟩
             · rcases k5 with k5 | k5 | k5
               · exact .inl k5
               · exact .inr (.inl k5)
               · exact .inr (.inr k5)
             · show deep + max (ks.deep + 1) nx.deep <= 17
               omega
             · show cnt + (1 + ks.cnt + nx.cnt) <= 1000
               omega
       · rename_i hb
         rw [if_neg hb] at k5
         simp only [Bool.or_eq_true,decide_eq_true_eq] at k5
         cases hq:dec R s f (p + k + hd.n) e deep (cnt + 1) with
         | error x => rw [hq] at h; cases h
         | ok nx =>
           rw [hq] at h
           cases h
           obtain ⟨a1,a2,a3⟩:=ih _ _ _ _ _ hq
           refine ⟨⟨k1,k2, ?_,a1⟩,.inr ?_,.inr ?_⟩
           · rcases k5 with k5 | k5
             · exact .inl k5
             · exact .inr k5
           · show deep + max 1 nx.deep <= 17
             omega
           · show cnt + (1 + nx.cnt) <= 1000
             omega
theorem one_single {R:Int -> ByteArray -> Bool} {s:ByteArray} {p e deep cnt q:Nat} {g:F} (h:Tlv.one R s p e deep cnt = .ok (g,q)):single g:=by
 unfold Tlv.one at h
 cases hl:Tlv.look R s p e deep cnt with
 | error c => rw [hl] at h; cases h
 | ok x =>
   obtain ⟨hd,k⟩:=x
   rw [hl] at h
   simp only at h
   split at h
   · cases hq:decA R s (p + k) (p + k + hd.n) (deep + 1) (cnt + 1) with
     | error x => rw [hq] at h; cases h
     | ok ks => rw [hq] at h; cases h; rfl
   · cases h; rfl
theorem decA_nilq {R:Int -> ByteArray -> Bool} {s:ByteArray} {p e deep cnt:Nat} (h:decA R s p e deep cnt = .ok .nil):e <= p:=by
 by_cases hp:p < e
 · rw [decA_step R s p e deep cnt hp] at h
   cases hl:Tlv.look R s p e deep cnt with
   | error c => rw [hl] at h; cases h
   | ok x =>
     obtain ⟨hd,k⟩:=x
     rw [hl] at h
     simp only at h
     split at h
     · cases hq:decA R s (p + k) (p + k + hd.n) (deep + 1) (cnt + 1) with
       | error x => rw [hq] at h; cases h
       | ok ks =>
         rw [hq] at h
         simp only at h
         cases hq2:decA R s (p + k + hd.n) e deep (cnt + 1 + ks.cnt) with
         | error x => rw [hq2] at h; cases h
         | ok nx => rw [hq2] at h; cases h
     · cases hq:decA R s (p + k + hd.n) e deep (cnt + 1) with
       | error x => rw [hq] at h; cases h
       | ok nx => rw [hq] at h; cases h
 · omega
theorem app_single {g1 nx g:F} (h:g1.app nx = g) (h1:single g1) (h2:single g):nx = .nil /\ g1 = g:=by
 cases g1 with
 | nil => exact absurd h1 (by intro h; exact h)
 | prim c t d n1 =>
   cases (show n1 = .nil from h1)
   subst h
   have h3:nx = .nil:=h2
   subst h3
   exact ⟨rfl,rfl⟩
 | cons c t ks n1 =>
   cases (show n1 = .nil from h1)
   subst h
   have h3:nx = .nil:=h2
   subst h3
   exact ⟨rfl,rfl⟩
theorem top_is {R:Int -> ByteArray -> Bool} {s:ByteArray} {g:F} (h:top R s = .ok g):IsT R (g.flat 0) g /\ g.enc = s.data.toList:=by
 obtain ⟨h0,h1⟩:=top_some h
 unfold top at h
 rw [if_neg (by omega),if_neg (by omega)] at h
 cases ho:Tlv.one R s 0 s.size 1 0 with
 | error x => rw [ho] at h; cases h
 | ok y =>
   obtain ⟨g1,q⟩:=y
   rw [ho] at h
   simp only at h
   split at h
   · cases h
   · rename_i hq
     cases h
     have hd:=decA_one R s 0 s.size 1 0 h0
     rw [ho] at hd
     simp only at hd
     rw [decA_nil R s q s.size 1 _ (by omega)] at hd
     simp only [F.app_nil] at hd
     unfold decA at hd
     obtain ⟨a1,a2,a3⟩:=dec_okF R s _ _ _ _ _ _ hd
     have hs:=one_single ho
     have he:=Tlv.dec_enc R s _ 0 s.size 1 0 g (Nat.zero_le _) (Nat.le_refl _) hd
     have hx:s.extract 0 s.size = s:=by simp
     rw [hx] at he
     exact ⟨⟨a1,hs,rfl,by omega,by rw [F.flat_len]; omega⟩,he⟩
theorem enc_two {g:F} (h:single g):2 <= g.enc.length:=F.enc_pos g (fun e => by rw [e] at h; exact h)
theorem top_enc {R:Int -> ByteArray -> Bool} {N:List Nd} {g:F} (h:IsT R N g) (hl:g.enc.length <= 65535):top R (bs g.enc) = .ok g:=by
 have h2:=enc_two h.one
 have hsz:(bs g.enc).size = g.enc.length:=size_bs _
 have hc:g.cnt <= 1000:=by have:=h.len; rw [h.flat,F.flat_len] at this; exact this
 have hx:(bs g.enc).extract 0 (bs g.enc).size = bs g.enc:=by simp
 have hd:=dec_of R (bs g.enc) g ((bs g.enc).size - 0 + 1) 0 (bs g.enc).size 1 0 h.ok (by rw [hx]; rfl) (Nat.le_refl _) (Nat.zero_le _) (by have:=h.deep; omega) (by omega) (by omega) hl
 have hd2:decA R (bs g.enc) 0 (bs g.enc).size 1 0 = .ok g:=hd
 rw [decA_one R _ 0 _ 1 0 (by omega)] at hd2
 unfold top
 rw [if_neg (by omega),if_neg (by omega)]
 cases ho:Tlv.one R (bs g.enc) 0 (bs g.enc).size 1 0 with
 | error x => rw [ho] at hd2; cases hd2
 | ok y =>
   obtain ⟨g1,q⟩:=y
   rw [ho] at hd2
   simp only at hd2 ⊢
   cases hq:decA R (bs g.enc) q (bs g.enc).size 1 (0 + g1.cnt) with
   | error x => rw [hq] at hd2; cases hd2
   | ok nx =>
     rw [hq] at hd2
     simp only [Except.ok.injEq] at hd2
     obtain ⟨rfl,rfl⟩:=app_single hd2 (one_single ho) h.one
     have:=decA_nilq hq
     rw [if_neg (by omega)]
end Tree
end Go.Proofs.YtpanhhjkecebkaaGreat
namespace Go.Proofs.YtpanhhjkecebkaaGreat
namespace Atm
open Tlv Tree Strs
abbrev AP2:=Int × ByteArray
def under:List Int:=[1,3,6,1,4,1,99999,7]
def arcsA (t:Int):List Int:=under ++ [t]
theorem arcs_ok (t:Int) (h:0 <= t /\ t <= 2147483647):Oid.Ok (arcsA t):=by
 have hl:∀ x ∈ (arcsA t).drop 2,0 <= x /\ x <= 2147483647:=by
   intro x hx
   have hx':x ∈ [6,1,4,1,99999,7,t]:=hx
   simp only [List.mem_cons,List.not_mem_nil,or_false] at hx'
   rcases hx' with rfl | rfl | rfl | rfl | rfl | rfl | rfl <;> omega
 exact ⟨by show 7 <= 18; omega,by omega,by omega,by omega,Or.inl (by omega),hl⟩
def nmA (t:Int):ByteArray:=bs (Oid.enc (arcsA t))
theorem nm_dec (t:Int) (h:0 <= t /\ t <= 2147483647):Oid.decB (nmA t).data.toList = true /\ Oid.decL (nmA t).data.toList = arcsA t:=by
 unfold nmA
 rw [list_bs]
 exact (Oid.dec_iff _ _).2 ⟨arcs_ok t h,rfl⟩
def attF (p:AP2):F:=.cons 0 16 (.prim 0 6 (nmA p.1) (.cons 0 17 (.prim 0 4 p.2 .nil) .nil)) .nil
def attN (p:AP2):List Nd:=(attF p).flat 0
theorem att_is (p:AP2) (h:0 <= p.1 /\ p.1 <= 2147483647):IsT rightB (attN p) (attF p) :=
 ⟨⟨by omega,by omega,Or.inr (Or.inl rfl),⟨by omega,by omega,Or.inr (nm_dec p.1 h).1,by omega,by omega,Or.inr (Or.inr rfl),⟨by omega,by omega,Or.inr rfl,trivial⟩,trivial⟩,trivial⟩,rfl,rfl,
   (by show max (max 1 (max (max 1 0 + 1) 0) + 1) 0 <= 16; omega),(by show 4 <= 1000; omega)⟩
theorem att_inj {p q:AP2} (hp:0 <= p.1 /\ p.1 <= 2147483647) (hq:0 <= q.1 /\ q.1 <= 2147483647) (h:attF p = attF q):p = q:=by
 unfold attF at h
 injection h with _ _ h
 injection h with _ _ h1 h
 injection h with _ _ h
 injection h with _ _ h2
 have h3:=(nm_dec p.1 hp).2
 rw [h1,(nm_dec q.1 hq).2] at h3
 have h4:q.1 = p.1:=by
   have:=congrArg (fun l => l.getD 8 0) h3
   exact this
 exact Prod.ext h4.symm h2
end Atm
end Go.Proofs.YtpanhhjkecebkaaGreat
namespace Go.Proofs.YtpanhhjkecebkaaGreat
namespace Atm
open Att
def Ok1 (p:A2):Prop:=1 <= p.1 /\ p.1 <= 65535 /\ p.2.size <= 255
def Up (L:List A2):Prop:=L.Pairwise (fun p q => p.1 < q.1)
theorem le_prev (L:List A2) (k:Nat) (hk:k <= L.length) (h:Up (L.take k)):∀ a ∈ L.take k,a.1 <= prevA L k:=by
 intro a ha
 cases k with
 | zero => rw [List.take_zero] at ha; cases ha
 | succ j =>
   obtain ⟨⟨t,s⟩,hp⟩:∃ p,L[j]? = some p:=⟨_,List.getElem?_eq_getElem (by omega)⟩
   rw [prevA_at L j t s hp]
   unfold Up at h
   rw [take_snoc L j _ hp] at h ha
   rw [List.pairwise_append] at h
   rcases List.mem_append.1 ha with ha | ha
   · exact Int.le_of_lt (h.2.2 a ha _ (List.mem_singleton.2 rfl))
   · rw [List.mem_singleton.1 ha]; exact Int.le_refl _
theorem prev_mem (L:List A2) (k:Nat) (hk:k <= L.length):prevA L k = 0 ∨ ∃ a ∈ L.take k,a.1 = prevA L k:=by
 cases k with
 | zero => exact Or.inl rfl
 | succ j =>
   obtain ⟨⟨t,s⟩,hp⟩:∃ p,L[j]? = some p:=⟨_,List.getElem?_eq_getElem (by omega)⟩
   refine Or.inr ⟨(t,s), ?_,(prevA_at L j t s hp).symm⟩
   rw [take_snoc L j _ hp]
   exact List.mem_append_right _ (List.mem_singleton.2 rfl)
theorem attN_iff (L:List A2):∀ k,k <= L.length -> (Att.attN L k = true ↔ Up (L.take k) /\ ∀ p ∈ L.take k,Ok1 p):=by
 intro k
 induction k with
 | zero => intro _; exact ⟨fun _ => ⟨List.Pairwise.nil,fun p hp => by rw [List.take_zero] at hp; cases hp⟩,fun _ => rfl⟩
 | succ k ih =>
   intro hk
   replace ih:=ih (by omega)
   obtain ⟨p,hp⟩:∃ p,L[k]? = some p:=⟨_,List.getElem?_eq_getElem (by omega)⟩
   have h9:stepA L k p = true ↔ prevA L k < p.1 /\ p.1 <= 65535 /\ p.2.size <= 255:=by
     unfold stepA
     rw [Bool.and_eq_true,Bool.and_eq_true,decide_eq_true_eq,decide_eq_true_eq,decide_eq_true_eq,and_assoc]
   rw [attN_step L k p hp,take_snoc L k p hp,Bool.and_eq_true,h9]
   constructor
   · rintro ⟨h1,h2,h3,h4⟩
     have h0:=(attN_all L k h1).1
     obtain ⟨u1,u2⟩:=ih.1 h1
     have hm:=le_prev L k (by omega) u1
     refine ⟨List.pairwise_append.2 ⟨u1,List.pairwise_singleton _ _,fun a ha b hb => ?_⟩,fun q hq => ?_⟩
     · rw [List.mem_singleton.1 hb]
       have:=hm a ha
       omega
     · rcases List.mem_append.1 hq with hq | hq
       · exact u2 q hq
       · rw [List.mem_singleton.1 hq]
         exact ⟨by omega,h3,h4⟩
   · rintro ⟨u1,u2⟩
     obtain ⟨u3,-,u4⟩:=List.pairwise_append.1 u1
     have u5:=u2 p (List.mem_append_right _ (List.mem_singleton.2 rfl))
     refine ⟨ih.2 ⟨u3,fun q hq => u2 q (List.mem_append_left _ hq)⟩, ?_,u5.2.1,u5.2.2⟩
     rcases prev_mem L k (by omega) with h | ⟨a,ha,h⟩
     · rw [h]; have:=u5.1; omega
     · rw [<- h]; exact u4 a ha p (List.mem_singleton.2 rfl)
theorem attOk_iff (L:List A2):attOk L = true ↔ L.length <= 32 /\ Up L /\ ∀ p ∈ L,Ok1 p:=by
 unfold attOk
 rw [Bool.and_eq_true,decide_eq_true_eq,attN_iff L L.length (Nat.le_refl _),List.take_length]
theorem ok_one (p:A2):attOk [p] = true ↔ Ok1 p:=by
 rw [attOk_iff]
 exact ⟨fun h => h.2.2 p (List.mem_singleton.2 rfl),fun h => ⟨by show 1 <= 32; omega,List.pairwise_singleton _ _,fun q hq => by rw [List.mem_singleton.1 hq]; exact h⟩⟩
def withA (L:List A2) (a:A2):List A2:=L.take (L.findIdx fun p => decide (a.1 < p.1)) ++ a :: L.drop (L.findIdx fun p => decide (a.1 < p.1))
def dropA (L:List A2) (t:Int):List A2:=L.filter fun p => p.1 != t
def setA (L:List A2) (a:A2):List A2:=withA (dropA L a.1) a
theorem with_lt (p:A2) (L:List A2) (a:A2) (h:a.1 < p.1):withA (p :: L) a = a :: p :: L:=by
 unfold withA
 rw [List.findIdx_cons,decide_eq_true h]
 rfl
theorem with_ge (p:A2) (L:List A2) (a:A2) (h:¬ a.1 < p.1):withA (p :: L) a = p :: withA L a:=by
 unfold withA
 rw [List.findIdx_cons,decide_eq_false h]
 rfl
theorem drop_ne (p:A2) (L:List A2) (t:Int) (h:p.1 ≠ t):dropA (p :: L) t = p :: dropA L t:=by
 unfold dropA
 rw [List.filter_cons,if_pos (by simpa using h)]
theorem drop_eq (p:A2) (L:List A2) (t:Int) (h:p.1 = t):dropA (p :: L) t = dropA L t:=by
 unfold dropA
 rw [List.filter_cons,if_neg (by simpa using h)]
theorem drop_all (L:List A2) (t:Int) (h:∀ p ∈ L,p.1 ≠ t):dropA L t = L:=List.filter_eq_self.2 fun p hp => by simpa using h p hp
theorem idx_first (L:List A2) (P:A2 -> Bool) (h:∀ p ∈ L,P p = true):L.findIdx P = 0:=by
 cases L with
 | nil => rfl
 | cons p l => rw [List.findIdx_cons,h p (List.mem_cons_self ..)]; rfl
theorem set_cut (L:List A2) (a:A2) (h:Up L):L.take (L.findIdx fun p => decide (a.1 <= p.1)) ++ [a] ++ L.drop (L.findIdx fun p => decide (a.1 < p.1)) = setA L a:=by
 induction L with
 | nil => rfl
 | cons p l ih =>
   obtain ⟨h1,h2⟩:=List.pairwise_cons.1 h
   replace ih:=ih h2
   unfold setA at ih ⊢
   rw [List.findIdx_cons,List.findIdx_cons]
   rcases Int.lt_trichotomy p.1 a.1 with hl | hl | hl
   · rw [decide_eq_false (by omega),decide_eq_false (by omega),drop_ne p l _ (by omega),with_ge p _ a (by omega),<- ih]
     rfl
   · have hf:l.findIdx (fun q => decide (a.1 < q.1)) = 0:=idx_first _ _ fun q hq => decide_eq_true (by have:=h1 q hq; omega)
     rw [decide_eq_true (by omega),decide_eq_false (by omega),drop_eq p l _ hl,drop_all l _ (fun q hq => by have:=h1 q hq; omega),hf]
     unfold withA
     rw [hf]
     rfl
   · rw [decide_eq_true (by omega),decide_eq_true (by omega),drop_ne p l _ (by omega),with_lt p _ a hl,drop_all l _ (fun q hq => by have:=h1 q hq; omega)]
     rfl
theorem with_perm (L:List A2) (a:A2):(withA L a).Perm (a :: L):=by
 induction L with
 | nil => exact List.Perm.refl _
 | cons p l ih =>
   by_cases h:a.1 < p.1
   · rw [with_lt p l a h]
   · rw [with_ge p l a h]
     exact (List.Perm.cons p ih).trans (List.Perm.swap a p l)
def Le (L:List A2):Prop:=L.Pairwise (fun p q => p.1 <= q.1)
theorem with_le (L:List A2) (a:A2) (h:Le L):Le (withA L a):=by
 induction L with
 | nil => exact List.pairwise_singleton _ _
 | cons p l ih =>
   obtain ⟨h1,h2⟩:=List.pairwise_cons.1 h
   by_cases hl:a.1 < p.1
   · rw [with_lt p l a hl]
     refine List.pairwise_cons.2 ⟨fun q hq => ?_,h⟩
     rcases List.mem_cons.1 hq with rfl | hq
     · omega
     · have:=h1 q hq; omega
   · rw [with_ge p l a hl]
     refine List.pairwise_cons.2 ⟨fun q hq => ?_,ih h2⟩
     rcases List.mem_cons.1 ((with_perm l a).mem_iff.1 hq) with rfl | hq
     · omega
     · exact h1 q hq
def fldA (ps:List A2):List A2:=ps.foldl withA []
theorem fld_snoc (ps:List A2) (a:A2):fldA (ps ++ [a]) = withA (fldA ps) a:=by unfold fldA; rw [List.foldl_append]; rfl
theorem fold_perm (ps:List A2):∀ acc,(ps.foldl withA acc).Perm (ps ++ acc):=by
 induction ps with
 | nil => intro acc; exact List.Perm.refl _
 | cons p l ih => intro acc; exact (ih (withA acc p)).trans ((List.Perm.append_left l (with_perm acc p)).trans List.perm_middle)
theorem fld_perm (ps:List A2):(fldA ps).Perm ps:=by have:=fold_perm ps []; rwa [List.append_nil] at this
theorem fold_le (ps:List A2):∀ acc,Le acc -> Le (ps.foldl withA acc):=by
 induction ps with
 | nil => intro acc h; exact h
 | cons p l ih => intro acc h; exact ih _ (with_le acc p h)
theorem fld_le (ps:List A2):Le (fldA ps):=fold_le ps [] List.Pairwise.nil
def tags (ps:List A2):List Int:=ps.map Prod.fst
theorem up_of (L:List A2) (h:Le L) (hn:(tags L).Nodup):Up L:=by
 unfold Up
 unfold tags List.Nodup at hn
 rw [List.pairwise_map] at hn
 exact (h.and hn).imp fun hx => by omega
theorem nodup_up (L:List A2) (h:Up L):(tags L).Nodup:=by
 unfold tags List.Nodup
 rw [List.pairwise_map]
 exact List.Pairwise.imp (fun hx => by omega) h
theorem up_eq:∀ L M:List A2,L.Perm M -> Up L -> Up M -> L = M:=by
 intro L
 induction L with
 | nil => intro M h _ _; exact (List.nil_perm.1 h).symm
 | cons p l ih =>
   intro M h h1 h2
   cases M with
   | nil => exact absurd h.length_eq (by simp)
   | cons q m =>
     obtain ⟨a1,a2⟩:=List.pairwise_cons.1 h1
     obtain ⟨b1,b2⟩:=List.pairwise_cons.1 h2
     have e:p = q:=by
       rcases List.mem_cons.1 (h.mem_iff.1 (List.mem_cons_self ..)) with e | e
       · exact e
       · rcases List.mem_cons.1 (h.mem_iff.2 (List.mem_cons_self ..)) with e2 | e2
         · exact e2.symm
         · have:=a1 _ e2; have:=b1 _ e; omega
     subst e
     rw [ih m (List.Perm.cons_inv h) a2 b2]
theorem le_fld (d ps:List A2) (hp:d.Perm ps) (hd:Le d) (hn:(tags ps).Nodup):d = fldA ps:=by
 have h1:(tags d).Nodup:=((hp.map Prod.fst).nodup_iff).2 hn
 have h2:(tags (fldA ps)).Nodup:=(((fld_perm ps).map Prod.fst).nodup_iff).2 hn
 exact up_eq _ _ (hp.trans (fld_perm ps).symm) (up_of d hd h1) (up_of _ (fld_le ps) h2)
theorem up_fld (l ps:List A2) (hp:l.Perm ps) (hl:Up l):fldA ps = l :=
 (le_fld l ps hp (List.Pairwise.imp (fun h => Int.le_of_lt h) hl) (((hp.map Prod.fst).nodup_iff).1 (nodup_up l hl))).symm
def unpB (ps:List A2):Bool:=decide (tags ps).Nodup && decide (ps.length <= 32)
theorem unp_ok (d ps:List A2) (hp:d.Perm ps) (hd:Le d) (h1:∀ p ∈ ps,Ok1 p):attOk d = unpB ps:=by
 rw [Bool.eq_iff_iff,attOk_iff]
 unfold unpB
 have hn:(tags d).Nodup ↔ (tags ps).Nodup:=(hp.map Prod.fst).nodup_iff
 rw [Bool.and_eq_true,decide_eq_true_eq,decide_eq_true_eq,<- hp.length_eq,<- hn]
 exact ⟨fun h => ⟨nodup_up d h.2.1,h.1⟩,fun h => ⟨h.2,up_of d hd h.1,fun p hp2 => h1 p (hp.mem_iff.1 hp2)⟩⟩
end Atm
end Go.Proofs.YtpanhhjkecebkaaGreat
namespace Go.Proofs.YtpanhhjkecebkaaGreat
open Go.RowKit
namespace Atf
open Att Atm Tlv
def tgN (N:List Nd) (xs:List Int):Nat -> Bool
 | 0 => true
 | k+1 => tgN N xs k && (match N[k]?,xs[k]? with | some n,some x => (n.c == 0) && (n.t == x) | _,_ => true)
def tagB (N:List Nd) (xs:List Int):Bool:=decide (N.length = xs.length) && tgN N xs N.length
theorem tgN_step (N:List Nd) (xs:List Int) (k:Nat) (n:Nd) (x:Int) (hn:N[k]? = some n) (hx:xs[k]? = some x):tgN N xs (k + 1) = (tgN N xs k && ((n.c == 0) && (n.t == x))):=by
 show (tgN N xs k && (match N[k]?,xs[k]? with | some n,some x => (n.c == 0) && (n.t == x) | _,_ => true)) = _
 rw [hn,hx]
theorem tgN_le (N:List Nd) (xs:List Int) (k m:Nat) (hk:k <= m) (h:tgN N xs m = true):tgN N xs k = true:=by
 induction m with
 | zero => obtain rfl : k = 0 := by omega
           exact h
 | succ m ih =>
   by_cases e:k = m + 1
   · rw [e]; exact h
   · refine ih (by omega) ?_
     have h2:(tgN N xs m && (match N[m]?,xs[m]? with | some n,some x => (n.c == 0) && (n.t == x) | _,_ => true)) = true:=h
     rw [Bool.and_eq_true] at h2
     exact h2.1
theorem tag_bad (N:List Nd) (xs:List Int) (k:Nat) (hk:k <= N.length) (h:tgN N xs k = false):tagB N xs = false:=by
 unfold tagB
 cases h2:tgN N xs N.length with
 | false => rw [Bool.and_false]
 | true => rw [tgN_le N xs k _ hk h2] at h; cases h
theorem tag_len (N:List Nd) (xs:List Int) (h:N.length ≠ xs.length):tagB N xs = false:=by
 unfold tagB
 rw [decide_eq_false h,Bool.false_and]
set_option maxHeartbeats 8000000 in
theorem tagged_rd (N:List Nd) (xs:List Int) (h0:0 < xs.length) (q:Bool) (hq:q = tagB N xs) (w:World) (v P:Value) (hv:TreeS w v N) (hP:IntsS w P xs):Calls Tryz.prog 60 #[v,P] w fun e w' => e = .returned (.bool q) /\ Since w w':=by
 by_cases hl:N.length = xs.length
 case neg =>
   obtain ⟨A,c,rfl,-,-⟩:=hv.slice
   obtain ⟨B,d,rfl,-,-⟩:=hP.slice
   obtain rfl:q = false:=by rw [hq,tag_len N xs hl]
   obtain ⟨n,hn⟩:∃ n,n = N.length:=⟨_,rfl⟩
   obtain ⟨m,hm⟩:∃ m,m = xs.length:=⟨_,rfl⟩
   have t1:((n:Int) != (m:Int)) = true:=bne_iff_ne.2 (by omega)
   rw [<- hn,<- hm]
   clear hn hm hq hv hP h0 hl
   go_enter Tryz.func60,Tryz.ntmps60
   go_wp2_with fail
   go_ret
   exact ⟨rfl,Since.refl w⟩
 obtain ⟨b,o,c,rfl,h1,h2,h3,h4⟩:=hv.form (by omega)
 obtain ⟨b2,o2,c2,rfl,p1,p2,p3,p4⟩:=hP.form h0
 obtain ⟨n,hn⟩:∃ n,n = N.length:=⟨_,rfl⟩
 have HC:=lH h4
 have HP:=lH p4
 have HLT:=lH (And.intro h3 p3)
 have HQ:=lH hq
 have HN:=lH (show n = N.length /\ n = xs.length from ⟨hn,by omega⟩)
 have hle:=hv.slice
 rw [<- hl,<- hn] at h0 p1 ⊢
 rw [<- hn] at h1
 have t1:((n:Int) != (n:Int)) = false:=by simp
 have hle2:n <= 9223372036854775807:=by unfold maxLen at h2; omega
 clear hv hP h4 p4 h3 p3 hq hn hle hl
 go_enter Tryz.func60,Tryz.ntmps60
 go_wp2_with fail
 go_loopw [14] (fun i wr => ∃ k:Nat,k <= n /\ i = .int .i64 (k:Int) /\ Hid (tgN N xs k = true) /\ Hid (Since w wr)) (fun i _ => n - (intOf i).toNat)
 case atStart => exact ⟨0,Nat.zero_le _,rfl,lH rfl,lH (Since.refl w)⟩
 case round =>
   obtain ⟨k,hk,rfl,HA,HS⟩:=hrel
   by_cases hlt:k < n
   · have hk1:k < N.length:=by rw [<- HN.out.1]; exact hlt
     have hk2:k < xs.length:=by rw [<- HN.out.2]; exact hlt
     obtain ⟨x,hx⟩:∃ x,N[k]? = some x:=⟨_,List.getElem?_eq_getElem hk1⟩
     obtain ⟨y,hy⟩:∃ y,xs[k]? = some y:=⟨_,List.getElem?_eq_getElem hk2⟩
     obtain ⟨kv,m0,m1,m2,m3,m4,hkv⟩:=HC.out k x hx
     obtain ⟨kA,kc,rfl,-,-⟩:=hkv.slice
     have e2:=HP.out k hk2
     rw [show xs.getD k 0 = y by rw [List.getD_eq_getElem?_getD,hy]; rfl] at e2
     have hst:=tgN_step N xs k x y hx hy
     rw [HA.out,Bool.true_and] at hst
     obtain ⟨xc,xt,xb,xd,xk⟩:=x
     dsimp only at m0 m1 m2 m3 m4 hst
     obtain ⟨kn,hkn⟩:∃ n,n = xk.length:=⟨_,rfl⟩
     rw [<- hkn] at m4
     replace m0:=(Below.cell HS.out (p:=⟨b,o + k * 5,none⟩) HLT.out.1).trans m0
     replace m1:=(Below.cell HS.out (p:=⟨b,o + k * 5 + 1,none⟩) HLT.out.1).trans m1
     replace m2:=(Below.cell HS.out (p:=⟨b,o + k * 5 + 2,none⟩) HLT.out.1).trans m2
     replace m3:=(Below.cell HS.out (p:=⟨b,o + k * 5 + 3,none⟩) HLT.out.1).trans m3
     replace m4:=(Below.cell HS.out (p:=⟨b,o + k * 5 + 4,none⟩) HLT.out.1).trans m4
     have i1:(0:Int) <= (k:Int):=by omega
     have i2:(k:Int) < (n:Int):=by omega
     have HS2:Hid (Since w (wr.alloc (.cells #[.int .i64 xc,.int .i64 xt,.bool xb,.string xd,.slice kA kn kc] 87))):=lH (HS.out.alloc _)
     have b0:(wr.alloc (.cells #[.int .i64 xc,.int .i64 xt,.bool xb,.string xd,.slice kA kn kc] 87)).cell? ⟨wr.heap.size,0,none⟩ = some (.int .i64 xc):=(World.cell?_alloc_new _ _ _ _).trans rfl
     have b1:(wr.alloc (.cells #[.int .i64 xc,.int .i64 xt,.bool xb,.string xd,.slice kA kn kc] 87)).cell? ⟨wr.heap.size,1,none⟩ = some (.int .i64 xt):=(World.cell?_alloc_new _ _ _ _).trans rfl
     have y0:(wr.alloc (.cells #[.int .i64 xc,.int .i64 xt,.bool xb,.string xd,.slice kA kn kc] 87)).cell? ⟨b2,o2 + k,none⟩ = some (.int .i64 y):=(Below.cell HS2.out (p:=⟨b2,o2 + k,none⟩) HLT.out.2).trans e2
     have HST:=lH hst
     have HKL:=lH (show k + 1 <= N.length by omega)
     clear hx hy hkv e2 hst hkn hk1 hk2
     cases hc:(xc == 0)
     · have t2:(xc != 0) = true:=by show (!(xc == 0)) = true; rw [hc]; rfl
       obtain rfl:q = false:=by rw [HQ.out]; exact tag_bad N xs (k + 1) HKL.out (by rw [HST.out,hc]; rfl)
       go_wp2_with fail
       go_quiet (fail)
       go_wp2_with fail
       go_ret
       exact ⟨rfl,HS2.out.step (Att.belowN _ nq)⟩
     · have t2:(xc != 0) = false:=by show (!(xc == 0)) = false; rw [hc]; rfl
       cases ht:(xt == y)
       · have t3:(xt != y) = true:=by show (!(xt == y)) = true; rw [ht]; rfl
         obtain rfl:q = false:=by rw [HQ.out]; exact tag_bad N xs (k + 1) HKL.out (by rw [HST.out,hc,ht]; rfl)
         go_wp2_with fail
         go_quiet (fail)
         go_wp2_with fail
         go_ret
         exact ⟨rfl,HS2.out.step (Att.belowN _ nq)⟩
       · have t3:(xt != y) = false:=by show (!(xt == y)) = false; rw [ht]; rfl
         have HA2:Hid (tgN N xs (k + 1) = true):=lH (by rw [HST.out,hc,ht]; rfl)
         go_wp2_with fail
         go_quiet (fail)
         have HS3:=lH (HS2.out.step (Att.belowN _ nq))
         go_wp2_with fail
         go_roundw
         case rel => exact ⟨k + 1,by omega,by go_num,HA2,HS3⟩
         case measure => (simp [intOf] <;> omega)
   · obtain rfl:n = k:=by omega
     obtain rfl:q = true:=by
       rw [HQ.out]
       unfold tagB
       rw [decide_eq_true (by rw [<- HN.out.1,HN.out.2]),<- HN.out.1,HA.out]
       rfl
     go_wp2_with fail
     go_ret
     exact ⟨rfl,HS.out⟩
end Atf
end Go.Proofs.YtpanhhjkecebkaaGreat
