import Derived.Test.YtddlaafpianjbaaGreatDoorBo44
set_option maxRecDepth 100000
namespace Go.Proofs.YtddlaafpianjbaaGreatDoor
open Go.RowKit
namespace Frame
open Att Templ Header
def cutK (s:ByteArray):Int:=(Dig.numD (s.extract 12 14).data.toList:Int)
def cutT (s:ByteArray):ByteArray:=s.extract 16 s.size
def cutO (s:ByteArray):List Opt.P2:=Opt.unpL (cutT s) (cutK s)
def cutD (s:ByteArray):Nat:=16 + (Opt.unpN (cutT s) (cutK s)).toNat
def cutR (s:ByteArray):List UInt8:=(s.extract (cutD s) s.size).data.toList
def cutE (s:ByteArray):Int:=if begE s ≠ 0 then begE s else if Opt.unpE (cutT s) (cutK s) ≠ 0 then Opt.unpE (cutT s) (cutK s) else if fE (cutO s) ≠ 0 then fE (cutO s) else selE (cutR s)
theorem beg_ok0 (s:ByteArray) (h:begE s = 0):16 <= s.size /\ s.size <= 9999 /\ Header.decV s = C7 (Dig.numD (s.extract 1 5).data.toList:Int) (cutK s) (s.extract 7 8) (s.extract 5 7) (s.extract 8 9) (s.extract 9 11) (s.extract 11 12) /\ Header.Form s /\ Header.okS s = true /\ Dig.numD (s.extract 1 5).data.toList = s.size:=by
 unfold begE at h
 by_cases h0:s.size = 0
 · rw [if_pos h0] at h; cases h
 by_cases h9:9999 < s.size
 · rw [if_neg h0,if_pos h9] at h; cases h
 rw [if_neg h0,if_neg h9] at h
 by_cases hE:Header.decE s = 0
 · rw [if_neg (fun h2 => h2 hE)] at h
   by_cases hn:Dig.numD (s.extract 1 5).data.toList = s.size
   · rcases dec_cases s with ⟨h2,_⟩ | ⟨_,hF,hk⟩
     · exact absurd hE h2
     · exact ⟨hF.1,by omega,if_pos ⟨hF,hk⟩,hF,hk,hn⟩
   · rw [if_pos hn] at h; cases h
 · rw [if_pos hE] at h; exact absurd h hE
theorem unp_bounds (s:ByteArray) (m:Int) (h:Opt.unpE s m = 0):0 <= Opt.unpN s m /\ Opt.unpN s m <= s.size /\ ∀ p ∈ Opt.unpL s m,p.2.size <= s.size:=by
 cases hu:Opt.unpOk s m with
 | none => rw [(Opt.unp_no s m hu).2.2] at h; cases h
 | some q =>
   obtain ⟨L,A⟩:=q
   obtain ⟨e1,e2,e3⟩:=Opt.unp_yes s m L A hu
   rw [e1,e2]
   obtain ⟨_,_,_,h4,_,h6⟩:=Opt.unp_some s m L A hu
   exact ⟨by omega,by omega,fun p hp => (h6 p hp).2⟩
theorem sel_bounds (t:List UInt8) (h:selE t = 0):64 <= t.length:=by
 unfold selE at h
 split at h
 · rename_i hk
   unfold okT at hk
   simp only [Bool.and_eq_true,decide_eq_true_eq] at hk
   have:=unS_le t
   omega
 · cases h
theorem split_bad (s:ByteArray) (hm:s.size <= 60000) (h:cutE s ≠ 0):KMk KH 71 #[.string s] (noF (cutE s)):=by
 have c1:=begin_k s (by omega)
 unfold cutE at h ⊢
 by_cases hb:begE s = 0
 · obtain ⟨h16,h9,hv,hF,hk,hn⟩:=beg_ok0 s hb
   rw [if_neg (fun h2 => h2 hb)] at h ⊢
   rw [hb,show begV s = Header.decV s from if_pos hb,hv] at c1
   have hTs:(cutT s).size <= 60000:=by unfold cutT; rw [ByteArray.size_extract]; omega
   have c2:=Opt.unpack_any (cutT s) (by omega) (cutK s) _ _ _ rfl rfl rfl
   by_cases hu:Opt.unpE (cutT s) (cutK s) = 0
   · rw [if_neg (fun h2 => h2 hu)] at h ⊢
     obtain ⟨u1,u2,u3⟩:=unp_bounds _ _ hu
     rw [hu] at c2
     have c3:=from_mk (cutO s) (fun p hp => by have:=u3 p hp; omega) decode_mk
     by_cases hf:fE (cutO s) = 0
     · rw [if_neg (fun h2 => h2 hf)] at h ⊢
       rw [hf] at c3
       have hN:Opt.unpN (cutT s) (cutK s) = ((Opt.unpN (cutT s) (cutK s)).toNat:Int):=by omega
       have hTz:(cutT s).size = s.size - 16:=by unfold cutT; rw [ByteArray.size_extract]; omega
       have c4:=sealed_mak (s.extract (cutD s) s.size) (by rw [ByteArray.size_extract]; omega)
       rw [hN] at c2
       unfold selV at c4
       exact spl_s s (cutT s) (by omega) h16 (by omega) rfl _ _ _ _ _ _ _ c1 _ (Opt.unpN (cutT s) (cutK s)).toNat (cutD s) (by unfold cutD; omega) (by omega) (by unfold cutD; omega) c2 _ c3 _ _ _ _ rfl rfl _ (beq_eq_false_iff_ne.2 h) c4
     · rw [if_pos hf] at h ⊢
       exact spl_f s (cutT s) (by omega) h16 rfl _ _ _ _ _ _ _ c1 _ _ c2 _ _ (beq_eq_false_iff_ne.2 hf) c3
   · rw [if_pos hu] at h ⊢
     exact spl_u s (cutT s) (by omega) h16 rfl _ _ _ _ _ _ _ c1 _ _ _ (beq_eq_false_iff_ne.2 hu) c2
 · rw [if_pos hb] at h ⊢
   rw [show begV s = Z7 from if_neg hb] at c1
   exact spl_b s Z7 _ (beq_eq_false_iff_ne.2 hb) 0 0 _ _ _ _ _ c1
theorem cut_facts (s:ByteArray) (h:cutE s = 0):begE s = 0 /\ Opt.unpE (cutT s) (cutK s) = 0 /\ fE (cutO s) = 0 /\ selE (cutR s) = 0:=by
 unfold cutE at h
 by_cases hb:begE s = 0
 · rw [if_neg (fun h2 => h2 hb)] at h
   by_cases hu:Opt.unpE (cutT s) (cutK s) = 0
   · rw [if_neg (fun h2 => h2 hu)] at h
     by_cases hf:fE (cutO s) = 0
     · rw [if_neg (fun h2 => h2 hf)] at h
       exact ⟨hb,hu,hf,h⟩
     · rw [if_pos hf] at h; exact absurd h hf
   · rw [if_pos hu] at h; exact absurd h hu
 · rw [if_pos hb] at h; exact absurd h hb
theorem cut_sizes (s:ByteArray) (h:cutE s = 0):16 <= cutD s /\ cutD s + 64 <= s.size /\ s.size <= 9999 /\ Opt.unpN (cutT s) (cutK s) = ((Opt.unpN (cutT s) (cutK s)).toNat:Int):=by
 obtain ⟨h1,h2,h3,h4⟩:=cut_facts s h
 obtain ⟨h16,h9,hv,hF,hk,hn⟩:=beg_ok0 s h1
 obtain ⟨u1,u2,u3⟩:=unp_bounds _ _ h2
 have h5:=sel_bounds _ h4
 have hl:(cutR s).length = s.size - cutD s:=by
   have:(cutR s).length = (s.extract (cutD s) s.size).size:=rfl
   rw [this,ByteArray.size_extract]; omega
 have hTz:(cutT s).size = s.size - 16:=by unfold cutT; rw [ByteArray.size_extract]; omega
 refine ⟨by unfold cutD; omega,by omega,h9,by omega⟩
theorem split_ok (s:ByteArray) (h:cutE s = 0):∀ w,KH w -> Calls Tryz.prog 71 #[.string s] w (PostS w (s.extract 7 8) (s.extract 5 7) (s.extract 8 9) (s.extract 9 11) (s.extract 11 12) (fL (cutO s)) (s.extract 0 (cutD s)) (selC (cutR s)) (selT (cutR s)) (cutD s) (s.size - 32) s.size):=by
 obtain ⟨h1,h2,h3,h4⟩:=cut_facts s h
 obtain ⟨d1,d2,d3,d4⟩:=cut_sizes s h
 obtain ⟨h16,h9,hv,hF,hk,hn⟩:=beg_ok0 s h1
 obtain ⟨u1,u2,u3⟩:=unp_bounds _ _ h2
 have c1:=begin_k s (by omega)
 rw [h1,show begV s = Header.decV s from if_pos h1,hv] at c1
 have hTz:(cutT s).size = s.size - 16:=by unfold cutT; rw [ByteArray.size_extract]; omega
 have c2:=Opt.unpack_any (cutT s) (by omega) (cutK s) _ _ _ rfl rfl rfl
 rw [h2,d4] at c2
 have c3:=from_mk (cutO s) (fun p hp => by have:=u3 p hp; omega) decode_mk
 rw [h3] at c3
 have c4:=sealed_mak (s.extract (cutD s) s.size) (by rw [ByteArray.size_extract]; omega)
 unfold selV at c4
 have h4':selE (s.extract (cutD s) s.size).data.toList = 0:=h4
 rw [h4'] at c4
 exact spl_ok s (cutT s) (by omega) h16 (by omega) rfl _ _ _ _ _ _ _ c1 _ (Opt.unpN (cutT s) (cutK s)).toNat (cutD s) (s.size - 32) (by unfold cutD; omega) (by omega) (by omega) c2 _ c3 _ _ _ _ rfl rfl c4 (by omega) (by omega)
def PostC (w:World) (s:ByteArray) (x:Ending) (w':World):Prop :=
 ∃ a,x = .returned (.tuple #[.agg (C9 (s.extract 7 8) (s.extract 5 7) (s.extract 8 9) (s.extract 9 11) (s.extract 11 12) a (s.extract 0 (cutD s)) (selC (cutR s)) (selT (cutR s))),.int .i64 0]) /\ AttsS w' a (fL (cutO s)) /\ Below w.heap.size w w' /\ Fresh w.heap.size a
set_option maxHeartbeats 4000000 in
theorem cut_bad (s:ByteArray) (E:Int) (c1:KMk KH 71 #[.string s] (noF E)):KMk KH 34 #[.string s] (.tuple #[.agg Z9,.int .i64 E]):=by
 intro w hT
 have hr:Hid (HR w w.heap.size Z9 53 (w.alloc (.cells Z9 53))):=lH ⟨heap_alloc_new w _⟩
 have HS:Hid (Since w (w.alloc (.cells Z9 53))):=lH ((Since.refl w).alloc _)
 have HT:Hid (KH (w.alloc (.cells Z9 53))):=lH (Kp.keep hT ((Below.refl _ w).alloc (Nat.le_refl _) _))
 have hr':=hr
 have HS':=HS
 unfold Z9 at hr' HS' HT
 unfold noF Z9 Z4 at c1
 clear hT
 go_enter Tryz.func34,Tryz.ntmps34
 go_wp2_with fail
 refine (c1.calls0 HT.out) ?_
 intro w1 h1
 replace hr:=lH (hr.out.step h1)
 replace HS:=lH (HS.out.step h1)
 clear h1 HT hr' HS'
 have hr2:Hid (HR w w.heap.size Z9 53 ((w1.alloc (.cells (Z9) 53)).alloc (.cells (Z4) 85))):=lH (hr_old (hr_old hr.out _) _)
 have HS2:=lH ((HS.out.alloc (.cells (Z9) 53)).alloc (.cells (Z4) 85))
 clear hr HS
 unfold Z9 Z4 at hr2 HS2
 go_wp2_with (refine wpList_store_row rfl 53 _ _ rfl w.heap.size (Z9) (by rfl) (by rfl) _ _ hr2.out.row (z9_info) rfl (z9_one) ?_)
 exact bodyPost_ret (v:=.tuple #[.agg Z9,.int .i64 E]) (results_cell_tmp2 Tryz.results34 _ _ _ _ _ _ _ _ rfl rfl (setRow_heap _ _ _ _ _ _ hr2.out.row) Tryz.underlying53 rfl z9_info) rfl ⟨rfl,below_setRow HS2.out (Nat.le_refl _) _⟩
set_option maxHeartbeats 4000000 in
theorem cut_good (s:ByteArray) (h:cutE s = 0):∀ w,KH w -> Calls Tryz.prog 34 #[.string s] w (PostC w s):=by
 intro w hT
 have c1:=split_ok s h
 unfold PostC
 obtain ⟨l,hl⟩:∃ l,s.extract 7 8 = l:=⟨_,rfl⟩
 obtain ⟨u,hu⟩:∃ l,s.extract 5 7 = l:=⟨_,rfl⟩
 obtain ⟨m,hm⟩:∃ l,s.extract 8 9 = l:=⟨_,rfl⟩
 obtain ⟨v,hv⟩:∃ l,s.extract 9 11 = l:=⟨_,rfl⟩
 obtain ⟨e,he⟩:∃ l,s.extract 11 12 = l:=⟨_,rfl⟩
 obtain ⟨P,hP⟩:∃ l,s.extract 0 (cutD s) = l:=⟨_,rfl⟩
 obtain ⟨C,hC⟩:∃ l,selC (cutR s) = l:=⟨_,rfl⟩
 obtain ⟨G,hG⟩:∃ l,selT (cutR s) = l:=⟨_,rfl⟩
 obtain ⟨L,hL⟩:∃ l,fL (cutO s) = l:=⟨_,rfl⟩
 obtain ⟨D,hD⟩:∃ l,cutD s = l:=⟨_,rfl⟩
 obtain ⟨M,hM⟩:∃ l,s.size - 32 = l:=⟨_,rfl⟩
 rw [hD] at hP
 rw [hD,hM,hl,hu,hm,hv,he,hP,hC,hG,hL] at c1
 rw [hD,hl,hu,hm,hv,he,hP,hC,hG,hL]
 clear hl hu hm hv he hP hC hG hL hD hM h
 have hr:Hid (HR w w.heap.size Z9 53 (w.alloc (.cells Z9 53))):=lH ⟨heap_alloc_new w _⟩
 have HS:Hid (Since w (w.alloc (.cells Z9 53))):=lH ((Since.refl w).alloc _)
 have HT:Hid (KH (w.alloc (.cells Z9 53))):=lH (Kp.keep hT ((Below.refl _ w).alloc (Nat.le_refl _) _))
 have HC:=lH c1
 unfold Z9 at HT
 clear hT c1
 go_enter Tryz.func34,Tryz.ntmps34
 go_wp2_with fail
 refine (HC.out _ HT.out).mono ?_
 rintro x w1 ⟨a,rfl,ha,hf,h1⟩
 replace hr:=lH (hr.out.step h1)
 replace HS:=lH (HS.out.step h1)
 have hlt:w.heap.size < (w.alloc (.cells Z9 53)).heap.size:=by simp
 have hfr:=lH (show Fresh w.heap.size a from fun A' l' c' e' => Nat.le_trans (Nat.le_of_lt hlt) (hf A' l' c' e'))
 have hne:Hid (∀ b,a.blockOf = some b -> b ≠ w.heap.size):=lH (fresh_ne hf hlt)
 have HA:=lH (far_rows ((ha.since ((Since.refl _).alloc (.cells (C9 l u m v e a P C G) 53))).since ((Since.refl _).alloc (.cells (CX D M s.size) 85))) w.heap.size hne.out (C9 l u m v e a P C G))
 obtain ⟨A,d,hav,_⟩:=ha.slice
 subst hav
 clear h1 HT ha hf hlt HC
 unfold C9 CX
 have hr2:Hid (HR w w.heap.size Z9 53 ((w1.alloc (.cells (C9 l u m v e (.slice A L.length d) P C G) 53)).alloc (.cells (CX D M s.size) 85))):=lH (hr_old (hr_old hr.out _) _)
 have HS2:=lH ((HS.out.alloc (.cells (C9 l u m v e (.slice A L.length d) P C G) 53)).alloc (.cells (CX D M s.size) 85))
 clear hr HS
 unfold Z9 C9 CX at hr2 HS2
 go_wp2_with (refine wpList_store_row rfl 53 _ _ rfl w.heap.size (C9 l u m v e (.slice A L.length d) P C G) (by rfl) (by rfl) _ _ hr2.out.row (c9_info _ _ _ _ _ _ _ _ _) rfl (c9_one _ _ _ _ _ _ _ _ _ _ _) ?_)
 exact bodyPost_ret (v:=.tuple #[.agg (C9 l u m v e (.slice A L.length d) P C G),.int .i64 0]) (results_cell_tmp2 Tryz.results34 _ _ _ _ _ _ _ _ rfl rfl (setRow_heap _ _ _ _ _ _ hr2.out.row) Tryz.underlying53 rfl (c9_info _ _ _ _ _ _ _ _ _)) rfl ⟨_,rfl,HA.out,below_setRow HS2.out (Nat.le_refl _) _,hfr.out⟩
end Frame
namespace Frame
open Att Templ Header
theorem sign_data:∀ d:Fin 16,Opt.dataN (Dig.sign d.1).toNat = true:=by decide
theorem hex_data (l:List UInt8):Opt.allB Opt.dataN (Dig.hexL l) = true:=by
 induction l with
 | nil => rfl
 | cons c l ih =>
   have hc:=c.toNat_lt
   have e:Dig.hexL (c :: l) = Dig.sign (c.toNat / 16) :: Dig.sign (c.toNat % 16) :: Dig.hexL l:=rfl
   have h1:=sign_data ⟨c.toNat / 16,by omega⟩
   have h2:=sign_data ⟨c.toNat % 16,by omega⟩
   rw [e]
   unfold Opt.allB at ih ⊢
   rw [List.all_cons,List.all_cons,ih]
   simp only at h1 h2
   rw [h1,h2]; rfl
theorem may_ten (L:List A2) (h:(encT L).size <= 9000):Opt.may TEN (encT L) = true:=by
 unfold Opt.may
 have h1:decide (TEN.size = 2) = true:=by decide
 have h2:Opt.allB Opt.idN TEN.data.toList = true:=by decide
 have h3:Opt.allB Opt.dataN (encT L).data.toList = true:=by
   unfold encT
   split
   · rw [list_bs]; exact hex_data _
   · rfl
 rw [h1,h2,h3,decide_eq_true h]; rfl
theorem pack_ok (L:List A2):Opt.packOk (oL L) = true:=by
 unfold oL
 split
 · rename_i h
   have hm:=may_ten L h.2.2
   have hs:=Opt.enc_size TEN (encT L) hm
   have e1:Opt.okN [(TEN,encT L)] 1 = true:=by
     rw [Opt.okN_succ [(TEN,encT L)] 0 (TEN,encT L) rfl]
     have:Opt.stepB [(TEN,encT L)] 0 (TEN,encT L) = (Opt.may TEN (encT L) && !decide (TEN = Opt.PB) && !Opt.hasB [] TEN):=rfl
     rw [this,hm,show decide (TEN = Opt.PB) = false by decide]
     rfl
   have hc:(Opt.catP [(TEN,encT L)]).size <= 9010:=by
     have:Opt.catP [(TEN,encT L)] = Opt.enc TEN (encT L):=by
       apply ba_ext
       unfold Opt.catP Opt.encs
       rw [list_bs]
       simp [Oct.cat]
     rw [this,hs]; split <;> omega
   have hp:(Opt.padP [(TEN,encT L)]).size <= 300:=Opt.padV_size _
   unfold Opt.packOk Opt.cntP
   rw [show ([(TEN,encT L)]:List P2).length = 1 from rfl,e1]
   simp only [Bool.true_and,Bool.and_eq_true,decide_eq_true_eq]
   exact ⟨by split <;> omega,by omega⟩
 · decide +kernel
theorem pk_size (L:List A2):(pk L).size <= 9999:=by
 have h:=pack_ok L
 unfold pk
 rw [Opt.packX_size _ h]
 unfold Opt.packOk at h
 simp only [Bool.and_eq_true,decide_eq_true_eq] at h
 exact h.2
theorem packE_ok (L:List A2):Opt.packE (oL L) = 0:=(Opt.packE_zero _).2 (pack_ok L)
theorem packN_b (L:List A2):0 <= Opt.packN (oL L) /\ Opt.packN (oL L) <= 98:=by
 have h:=pack_ok L
 rw [Opt.packN_ok _ h]
 unfold Opt.packOk at h
 simp only [Bool.and_eq_true,decide_eq_true_eq] at h
 omega
structure TopOk (l u m v e:ByteArray) (L:List A2) (n:Int):Prop where
 bad:badN l n = false
 ok:Table.okB u.data.toList m.data.toList v.data.toList e.data.toList l.data.toList = true
 oe:oE L = 0
 most:Kind.mostN l.data.toList ≠ 0
 n16:16 <= n
 n40:n <= 4096
 nm:n % 16 = 0
 z9:topN L n <= 9999
theorem top_ok_iff (l u m v e:ByteArray) (L:List A2) (n:Int) (h:topE l u m v e L n = 0):TopOk l u m v e L n:=by
 unfold topE at h
 cases hb:badN l n with
 | true => rw [hb,if_pos rfl] at h; cases h
 | false =>
   rw [hb,if_neg (by decide)] at h
   cases hk:Table.okB u.data.toList m.data.toList v.data.toList e.data.toList l.data.toList with
   | false => rw [hk,if_pos rfl] at h; cases h
   | true =>
     rw [hk,if_neg (by decide)] at h
     by_cases ho:oE L = 0
     · rw [if_neg (fun h2 => h2 ho),if_neg (fun h2 => h2 (packE_ok L))] at h
       by_cases hz:9999 < topN L n
       · rw [if_pos hz] at h; cases h
       · have hb2:=hb
         unfold badN at hb2
         simp only [Bool.or_eq_false_iff,decide_eq_false_iff_not] at hb2
         exact ⟨hb,hk,ho,hb2.1.1.1,by omega,by omega,by omega,by omega⟩
     · rw [if_pos ho] at h; exact absurd h ho
theorem top_of (l u m v e:ByteArray) (L:List A2) (n:Int) (h:TopOk l u m v e L n):topE l u m v e L n = 0:=by
 unfold topE
 rw [h.bad,if_neg (by decide),h.ok,if_neg (by decide),if_neg (fun h2 => h2 h.oe),if_neg (fun h2 => h2 (packE_ok L)),if_neg (by have:=h.z9; omega)]
theorem TopOk.inN {l u m v e:ByteArray} {L:List A2} {n:Int} (h:TopOk l u m v e L n):InN (topN L n) (Opt.packN (oL L)) l.data.toList:=by
 have hp:=packN_b L
 have:=h.n16
 have:=h.z9
 exact ⟨by unfold topN; omega,h.z9,hp.1,by omega,h.most⟩
theorem c7_inj {n k n' k':Int} {l u m v e l' u' m' v' e':ByteArray} (h:C7 n k l u m v e = C7 n' k' l' u' m' v' e'):n = n' /\ k = k' /\ l = l' /\ u = u' /\ m = m' /\ v = v' /\ e = e':=by
 unfold C7 at h
 simp only [Array.mk.injEq,List.cons.injEq,Value.int.injEq,Value.string.injEq,and_true,true_and] at h
 obtain ⟨h1,h2,h3,h4,h5,h6,h7⟩:=h
 exact ⟨h1,h3,h2,h4,h5,h6,h7⟩
theorem cut_top (l u m v e:ByteArray) (L:List A2) (c g:ByteArray) (h:topE l u m v e L (c.size:Int) = 0) (hg:g.size = 16) (s:ByteArray) (hs:s = joinX (topX l u m v e L (c.size:Int)) c g) :
   cutE s = 0 /\ s.extract 7 8 = l /\ s.extract 5 7 = u /\ s.extract 8 9 = m /\ s.extract 9 11 = v /\ s.extract 11 12 = e /\ fL (cutO s) = L /\ s.extract 0 (cutD s) = topX l u m v e L (c.size:Int) /\ selC (cutR s) = c /\ selT (cutR s) = g:=by
 have ht:=top_ok_iff l u m v e L _ h
 have hin:=ht.inN
 have hX:topX l u m v e L (c.size:Int) = encX (topN L (c.size:Int)) (Opt.packN (oL L)) l u m v e ++ pk L:=by unfold topX; rw [if_pos h]
 have hcl:c.data.toList.length = c.size:=rfl
 have hgl:g.data.toList.length = g.size:=rfl
 obtain ⟨R,hR⟩:∃ R,bs (Dig.hexL c.data.toList) ++ bs (Dig.hexL g.data.toList) = R:=⟨_,rfl⟩
 have hRl:R.data.toList = Dig.hexL (c.data.toList ++ g.data.toList):=by rw [<- hR,app_list,list_bs,list_bs]; unfold Dig.hexL; rw [List.flatMap_append]
 have hRs:R.size = 2 * (c.size + 16):=by
   show R.data.toList.length = _
   rw [hRl,Dig.hexL_len,List.length_append,hcl,hgl,hg]
 have hs2:s = encX (topN L (c.size:Int)) (Opt.packN (oL L)) l u m v e ++ (pk L ++ R):=by
   rw [hs]; unfold joinX
   rw [hX,<- hR]; simp only [Opt.app_assoc]
 obtain ⟨z1,z2,z3⟩:=Header.dec_enc (topN L (c.size:Int)) (Opt.packN (oL L)) l u m v e (pk L ++ R) hin ht.ok
 rw [<- hs2] at z2 z3
 have hsz:(s.size:Int) = topN L (c.size:Int):=by
   rw [hs2,ByteArray.size_append,ByteArray.size_append,z1,hRs]; unfold topN; omega
 have h9:=ht.z9
 have hpos:48 <= s.size:=by have:=ht.n16; have h8:=hsz; unfold topN at h8; omega
 rcases dec_cases s with ⟨q,_⟩ | ⟨_,hF,hk⟩
 · exact absurd z2 q
 have hv:Header.decV s = C7 (Dig.numD (s.extract 1 5).data.toList:Int) (Dig.numD (s.extract 12 14).data.toList:Int) (s.extract 7 8) (s.extract 5 7) (s.extract 8 9) (s.extract 9 11) (s.extract 11 12):=if_pos ⟨hF,hk⟩
 rw [hv] at z3
 obtain ⟨i1,i2,i3,i4,i5,i6,i7⟩:=c7_inj z3
 have hbeg:begE s = 0:=by
   unfold begE
   rw [if_neg (by omega),if_neg (by omega),if_neg (fun h2 => h2 z2),if_neg (fun h2 => h2 (by omega))]
 have hT:cutT s = pk L ++ R:=Opt.ext_suf s _ _ hs2 16 z1
 have hK:cutK s = Opt.packN (oL L):=i2
 have hun:Opt.unpOk (cutT s) (cutK s) = some (oL L,(pk L).size):=by
   rw [hK]; exact Opt.unp_fwd (oL L) (pack_ok L) R _ hT
 obtain ⟨e1,e2,e3⟩:=Opt.unp_yes _ _ _ _ hun
 have hD:cutD s = 16 + (pk L).size:=by unfold cutD; rw [e2,Int.toNat_natCast]
 have hO:cutO s = oL L:=e1
 obtain ⟨f1,f2⟩:=from_opt L ht.oe
 have hRR:s.extract (cutD s) s.size = R:=by
   refine Opt.ext_suf s (encX (topN L (c.size:Int)) (Opt.packN (oL L)) l u m v e ++ pk L) R (by rw [hs2,Opt.app_assoc]) _ ?_
   rw [ByteArray.size_append,z1,hD]
 have hcr:cutR s = Dig.hexL (c.data.toList ++ g.data.toList):=by unfold cutR; rw [hRR,hRl]
 have hub:=unB_hex (c.data.toList ++ g.data.toList)
 have hus:Dig.unS (Dig.hexL (c.data.toList ++ g.data.toList)) = c ++ g:=by
   apply ba_ext
   rw [unS_hex,app_list]
 have hn16:=ht.n16
 have hnm:=ht.nm
 have hsel:okT (cutR s) = true:=by
   rw [hcr]; unfold okT
   rw [hub,hus,ByteArray.size_append,hg,decide_eq_true (by omega),decide_eq_true (by omega)]; rfl
 refine ⟨?_,i3,i4,i5,i6,i7,by rw [hO,f1], ?_, ?_, ?_⟩
 · unfold cutE
   rw [if_neg (fun h2 => h2 hbeg),if_neg (fun h2 => h2 e3),if_neg (fun h2 => h2 (by rw [hO]; exact f2))]
   unfold selE; rw [if_pos hsel]
 · rw [hX]
   refine Opt.ext_pre s _ R (by rw [hs2,Opt.app_assoc]) _ ?_
   rw [ByteArray.size_append,z1,hD]
 · unfold selC
   rw [if_pos hsel,hcr,hus,ByteArray.size_append,hg,show c.size + 16 - 16 = c.size by omega]
   exact Opt.ext_pre _ c g rfl _ rfl
 · unfold selT
   rw [if_pos hsel,hcr,hus]
   rw [show (c ++ g).size - 16 = c.size by rw [ByteArray.size_append,hg]; omega]
   exact Opt.ext_suf _ c g rfl _ rfl
theorem from_back (o:List P2) (hk:Opt.packOk o = true) (h:fE o = 0):oE (fL o) = 0 /\ oL (fL o) = o:=by
 match o,hk,h with
 | [],_,_ => exact ⟨o_nil.2,o_nil.1⟩
 | [(i,d)],hk,h =>
   have hm:Opt.may i d = true:=by
     unfold Opt.packOk at hk
     simp only [Bool.and_eq_true] at hk
     exact Opt.okN_may [(i,d)] 1 hk.1.1 (i,d) (by simp)
   by_cases hc:i = TEN /\ 0 < d.size
   · have e:fO [(i,d)] = (decO d.data.toList,false):=if_pos hc
     obtain ⟨rfl,hd⟩:=hc
     unfold fE at h
     unfold fL
     rw [e] at h ⊢
     simp only [Bool.false_eq_true,if_false] at h ⊢
     cases hdo:decO d.data.toList with
     | none => rw [hdo] at h; cases h
     | some L =>
       rw [hdo] at h
       have hE:attE L = 0:=h
       rw [p_good L hE]
       have henc:=Templ.enc_dec d L hdo hE
       have h0:0 < L.length:=by
         rcases Nat.eq_zero_or_pos L.length with hz | hz
         · obtain rfl:=List.length_eq_zero_iff.1 hz
           rw [encT_nil] at henc
           rw [<- henc] at hd
           exact absurd hd (by decide)
         · exact hz
       have h9:(encT L).size <= 9000:=by rw [henc]; exact (Opt.may_sizes TEN d hm).2
       rw [(o_good L hE h0 h9).1,(o_good L hE h0 h9).2,henc]
       exact ⟨rfl,rfl⟩
   · have e:fO [(i,d)] = (none,false):=if_neg hc
     unfold fE at h
     rw [e] at h; cases h
 | p :: q :: o,_,h =>
   have e:fO (p :: q :: o) = (none,false):=rfl
   unfold fE at h
   rw [e] at h; cases h
theorem split_ext (U:ByteArray) (k:Nat) (_h:k <= U.size):(U.extract 0 k).data.toList ++ (U.extract k U.size).data.toList = U.data.toList:=by
 rw [ext_list,ext_list,List.drop_zero,Nat.sub_zero]
 have hul:U.data.toList.length = U.size:=rfl
 rw [List.take_of_length_le (show (U.data.toList.drop k).length <= U.size - k by rw [List.length_drop,hul]; omega)]
 exact List.take_append_drop _ _
theorem top_cut (s:ByteArray) (h:cutE s = 0) (h40:(selC (cutR s)).size <= 4096) :
   topE (s.extract 7 8) (s.extract 5 7) (s.extract 8 9) (s.extract 9 11) (s.extract 11 12) (fL (cutO s)) ((selC (cutR s)).size:Int) = 0 /\ topX (s.extract 7 8) (s.extract 5 7) (s.extract 8 9) (s.extract 9 11) (s.extract 11 12) (fL (cutO s)) ((selC (cutR s)).size:Int) = s.extract 0 (cutD s):=by
 obtain ⟨h1,h2,h3,h4⟩:=cut_facts s h
 obtain ⟨d1,d2,d3,d4⟩:=cut_sizes s h
 obtain ⟨h16,h9,hv,hF,hk,hn⟩:=beg_ok0 s h1
 have hsel:okT (cutR s) = true:=by
   unfold selE at h4
   cases hq:okT (cutR s) with
   | true => rfl
   | false => rw [hq,if_neg (by decide)] at h4; cases h4
 have hC:selC (cutR s) = (Dig.unS (cutR s)).extract 0 ((Dig.unS (cutR s)).size - 16):=if_pos hsel
 unfold okT at hsel
 simp only [Bool.and_eq_true,decide_eq_true_eq] at hsel
 obtain ⟨⟨hub,hs32⟩,hs16⟩:=hsel
 have hlen:(cutR s).length = 2 * (Dig.unS (cutR s)).size:=by
   have:=Templ.hex_unS (cutR s) hub
   have h8:=congrArg List.length this
   rw [Dig.hexL_len,Opt.sz] at h8
   exact h8.symm
 have hl:(cutR s).length = s.size - cutD s:=by
   have:(cutR s).length = (s.extract (cutD s) s.size).size:=rfl
   rw [this,ByteArray.size_extract]; omega
 have hcs:(selC (cutR s)).size = (Dig.unS (cutR s)).size - 16:=by rw [hC,ByteArray.size_extract]; omega
 have hTz:(cutT s).size = s.size - 16:=by unfold cutT; rw [ByteArray.size_extract]; omega
 cases hu:Opt.unpOk (cutT s) (cutK s) with
 | none => rw [(Opt.unp_no _ _ hu).2.2] at h2; cases h2
 | some q =>
   obtain ⟨O,A⟩:=q
   obtain ⟨e1,e2,e3⟩:=Opt.unp_yes _ _ _ _ hu
   obtain ⟨p1,p2,p3,p4,_,_⟩:=Opt.unp_some _ _ _ _ hu
   have hO:cutO s = O:=e1
   have hD:cutD s = 16 + A:=by unfold cutD; rw [e2,Int.toNat_natCast]
   obtain ⟨b1,b2⟩:=from_back O p1 (by rw [<- hO]; exact h3)
   rw [hO]
   have hpk:pk (fL O) = (cutT s).extract 0 A:=by unfold pk; rw [b2]; exact p3
   have hpz:(pk (fL O)).size = A:=by rw [hpk,ByteArray.size_extract]; omega
   have hz:topN (fL O) ((selC (cutR s)).size:Int) = (s.size:Int):=by unfold topN; rw [hpz,hcs]; omega
   have hmost:Kind.mostN (s.extract 7 8).data.toList ≠ 0:=hF.2.2.2.2.2
   have hbad:badN (s.extract 7 8) ((selC (cutR s)).size:Int) = false:=by
     unfold badN
     rw [decide_eq_false hmost,decide_eq_false (by omega),decide_eq_false (by omega),decide_eq_false (by omega)]; rfl
   have htop:TopOk (s.extract 7 8) (s.extract 5 7) (s.extract 8 9) (s.extract 9 11) (s.extract 11 12) (fL O) ((selC (cutR s)).size:Int) :=
     ⟨hbad,hk,b1,hmost,by omega,by omega,by omega,by rw [hz]; omega⟩
   have hE:=top_of _ _ _ _ _ _ _ htop
   refine ⟨hE, ?_⟩
   unfold topX
   rw [if_pos hE,hz,b2]
   obtain ⟨n,k,l,u,m,v,e,w1,_,_,_,_,w6,_⟩:=Header.enc_dec s hF hk
   rw [hv] at w1
   obtain ⟨i1,i2,i3,i4,i5,i6,i7⟩:=c7_inj w1
   rw [Opt.packN_ok O p1,p2,i3,i4,i5,i6,i7,i2,show (s.size:Int) = (n:Int) by rw [<- i1,hn],w6,hpk]
   apply ba_ext
   unfold cutT
   rw [app_list,ext_list,ext_list,ext_list,ext_list,hD]
   have hsl:s.data.toList.length = s.size:=rfl
   rw [List.drop_zero,List.drop_zero,Nat.sub_zero,Nat.sub_zero,Nat.sub_zero,List.take_of_length_le (show (s.data.toList.drop 16).length <= s.size - 16 by rw [List.length_drop,hsl]; omega)]
   rw [List.take_add]
theorem join_cut (s:ByteArray) (h:cutE s = 0):joinX (s.extract 0 (cutD s)) (selC (cutR s)) (selT (cutR s)) = s:=by
 obtain ⟨h1,h2,h3,h4⟩:=cut_facts s h
 obtain ⟨d1,d2,d3,d4⟩:=cut_sizes s h
 have hsel:okT (cutR s) = true:=by
   unfold selE at h4
   cases hq:okT (cutR s) with
   | true => rfl
   | false => rw [hq,if_neg (by decide)] at h4; cases h4
 have hC:selC (cutR s) = (Dig.unS (cutR s)).extract 0 ((Dig.unS (cutR s)).size - 16):=if_pos hsel
 have hG:selT (cutR s) = (Dig.unS (cutR s)).extract ((Dig.unS (cutR s)).size - 16) (Dig.unS (cutR s)).size:=if_pos hsel
 unfold okT at hsel
 simp only [Bool.and_eq_true,decide_eq_true_eq] at hsel
 obtain ⟨⟨hub,hs32⟩,hs16⟩:=hsel
 have hx:=Templ.hex_unS (cutR s) hub
 unfold joinX
 rw [hC,hG]
 apply ba_ext
 rw [app_list,app_list,list_bs,list_bs]
 have hsp:((Dig.unS (cutR s)).extract 0 ((Dig.unS (cutR s)).size - 16)).data.toList ++ ((Dig.unS (cutR s)).extract ((Dig.unS (cutR s)).size - 16) (Dig.unS (cutR s)).size).data.toList = (Dig.unS (cutR s)).data.toList:=split_ext _ _ (by omega)
 have hh:Dig.hexL ((Dig.unS (cutR s)).extract 0 ((Dig.unS (cutR s)).size - 16)).data.toList ++ Dig.hexL ((Dig.unS (cutR s)).extract ((Dig.unS (cutR s)).size - 16) (Dig.unS (cutR s)).size).data.toList = cutR s:=by
   have ha:∀ a b:List UInt8,Dig.hexL a ++ Dig.hexL b = Dig.hexL (a ++ b):=fun a b => by unfold Dig.hexL; rw [List.flatMap_append]
   rw [ha,hsp,hx]
 rw [List.append_assoc,hh]
 unfold cutR
 exact split_ext s _ (by omega)
end Frame
namespace Frame
open Att Templ Header
theorem hb9 {w:World} {K:World -> Prop} {g:Nat} {a b c d e f k p q:Value} {W:World} (h:HB w K g #[a,b,c,d,e,f,k,p,q] W):W.cell? ⟨g,0,none⟩ = some a /\ W.cell? ⟨g,1,none⟩ = some b /\ W.cell? ⟨g,2,none⟩ = some c /\ W.cell? ⟨g,3,none⟩ = some d /\ W.cell? ⟨g,4,none⟩ = some e /\ W.cell? ⟨g,5,none⟩ = some f /\ W.cell? ⟨g,6,none⟩ = some k /\ W.cell? ⟨g,7,none⟩ = some p /\ W.cell? ⟨g,8,none⟩ = some q :=
 ⟨h.cell 0 _ rfl,h.cell 1 _ rfl,h.cell 2 _ rfl,h.cell 3 _ rfl,h.cell 4 _ rfl,h.cell 5 _ rfl,h.cell 6 _ rfl,h.cell 7 _ rfl,h.cell 8 _ rfl⟩
end Frame
namespace Frame
open Att Templ Header
theorem top_e {l u m v e:ByteArray} {L:List A2} {n:Int} (E:Int) (hE:topE l u m v e L n = E) (h:E ≠ 0) (k:RdT l u m v e L n (.tuple #[.string ⟨#[]⟩,.int .i64 E])):RdT l u m v e L n (.tuple #[.string (topX l u m v e L n),.int .i64 (topE l u m v e L n)]):=by
 have hX:topX l u m v e L n = ⟨#[]⟩:=by unfold topX; rw [hE,if_neg h]
 rw [hX,hE]; exact k
theorem ol_small (L:List A2):(oL L).length <= 600 /\ ∀ p ∈ oL L,p.1.size <= 1000000 /\ p.2.size <= 1000000:=by
 unfold oL
 split
 · refine ⟨by simp,fun p hp => ?_⟩
   have hp2:=List.mem_singleton.1 hp
   subst hp2
   have:=encT_size L
   exact ⟨by show TEN.size <= _; decide,by show (encT L).size <= _; omega⟩
 · exact ⟨by simp,fun p hp => by cases hp⟩
theorem top_any (l u m v e:ByteArray) (L:List A2) (n:Int) (hz:u.size <= 100 /\ m.size <= 100 /\ v.size <= 100 /\ e.size <= 100):RdT l u m v e L n (.tuple #[.string (topX l u m v e L n),.int .i64 (topE l u m v e L n)]):=by
 have c1:=most_h l _ rfl
 by_cases h0:Kind.mostN l.data.toList = 0
 · refine top_e 1 ?_ (by decide) (top_b1 l u m v e L n _ c1 (beq_iff_eq.2 h0))
   unfold topE badN; rw [decide_eq_true h0]; rfl
 have t0:(Kind.mostN l.data.toList == 0) = false:=beq_eq_false_iff_ne.2 h0
 by_cases h16:n < 16
 · refine top_e 1 ?_ (by decide) (top_b2 l u m v e L n _ c1 t0 (decide_eq_true h16))
   unfold topE badN; rw [decide_eq_true h16,Bool.or_true]; rfl
 have t16:decide (n < 16) = false:=decide_eq_false h16
 by_cases h40:4096 < n
 · refine top_e 1 ?_ (by decide) (top_b3 l u m v e L n _ c1 t0 t16 (decide_eq_true h40))
   unfold topE badN; rw [decide_eq_true h40,Bool.or_true]; rfl
 have t40:decide (4096 < n) = false:=decide_eq_false h40
 have em:n.tmod 16 = n % 16:=Int.tmod_eq_emod_of_nonneg (by omega)
 by_cases hm:n % 16 = 0
 case neg =>
   refine top_e 1 ?_ (by decide) (top_b4 l u m v e L n _ c1 t0 t16 t40 (by rw [em]; exact bne_iff_ne.2 hm))
   unfold topE badN; rw [decide_eq_true hm,Bool.or_true]; rfl
 have hbad:badN l n = false:=by
   unfold badN
   rw [decide_eq_false h0,t16,t40,decide_eq_false (fun h => h hm)]; rfl
 have tm:(n.tmod 16 != 0) = false:=by rw [em]; exact bne_eq_false_iff_eq.2 hm
 by_cases hk:Table.okB u.data.toList m.data.toList v.data.toList e.data.toList l.data.toList = true
 case neg =>
   have hkf:Table.okB u.data.toList m.data.toList v.data.toList e.data.toList l.data.toList = false:=by
     cases h:Table.okB u.data.toList m.data.toList v.data.toList e.data.toList l.data.toList with
     | true => exact absurd h hk
     | false => rfl
   refine top_e 12 ?_ (by decide) (top_b5 l u m v e L n _ c1 t0 t16 t40 tm (check_h u m v e l 12 (by rw [hkf]; rfl)))
   unfold topE; rw [hbad,if_neg (by decide),if_pos hkf]
 have c2:=check_h u m v e l 0 (by rw [hk]; rfl)
 have hkn:¬ Table.okB u.data.toList m.data.toList v.data.toList e.data.toList l.data.toList = false:=by rw [hk]; decide
 have c3:=options_mk L
 by_cases ho:oE L = 0
 case neg =>
   refine top_e (oE L) ?_ ho (top_b6 l u m v e L n ⟨by omega,by omega⟩ _ c1 t0 hm c2 _ _ c3 (beq_eq_false_iff_ne.2 ho))
   unfold topE; rw [hbad,if_neg (by decide),if_neg hkn,if_pos ho]
 rw [ho] at c3
 have c4:=Opt.pack_any (oL L) (ol_small L).1 (ol_small L).2
 unfold Opt.packV at c4
 rw [packE_ok L] at c4
 have hps:=pk_size L
 by_cases h9:9999 < topN L n
 · refine top_e 4 ?_ (by decide) (top_b8 l u m v e L n ⟨by omega,by omega⟩ _ c1 t0 hm c2 _ c3 (pk L) (by omega) _ c4 (topN L n) rfl h9)
   unfold topE; rw [hbad,if_neg (by decide),if_neg hkn,if_neg (fun h => h ho),if_neg (fun h => h (packE_ok L)),if_pos h9]
 have hE:topE l u m v e L n = 0:=by
   unfold topE; rw [hbad,if_neg (by decide),if_neg hkn,if_neg (fun h => h ho),if_neg (fun h => h (packE_ok L)),if_neg h9]
 have hX:topX l u m v e L n = encX (topN L n) (Opt.packN (oL L)) l u m v e ++ pk L:=by unfold topX; rw [if_pos hE]
 have ht:=top_ok_iff l u m v e L n hE
 have hin:=ht.inN
 have c5:=enc_any (topN L n) (Opt.packN (oL L)) l u m v e hz _ 0 rfl (by unfold encE; rw [if_pos hin,if_pos hk])
 obtain ⟨z1,_,_⟩:=Header.dec_enc (topN L n) (Opt.packN (oL L)) l u m v e ⟨#[]⟩ hin hk
 rw [hE,hX]
 exact top_ok l u m v e L n ⟨by omega,by omega⟩ _ c1 t0 hm c2 _ c3 (pk L) (by omega) _ c4 (topN L n) rfl (by omega) _ _ c5 rfl (by rw [ByteArray.size_append,z1]; omega)
end Frame
namespace Frame
open Att Templ Header
end Frame
namespace Frame
open Att Templ Header
def RdR (l u m v e:ByteArray) (L:List A2) (n:Int) (V:Value):Prop:=∀ w x,AttsS w x L -> Calls Tryz.prog 31 #[.string l,.agg #[.string u,.string m,.string v,.string e],x,.int .i64 n] w fun z w' => z = .returned V /\ Below w.heap.size w w'
end Frame
namespace Frame
open Att Templ Header
theorem rz9_info:(Tryz.prog.info? 59).map (·.size) = some Z9.size:=by kernel_rfl
theorem rc9_info (l u m v e:ByteArray) (x:Value) (t c g:ByteArray):(Tryz.prog.info? 59).map (·.size) = some (C9 l u m v e x t c g).size:=by kernel_rfl
theorem rcut_early (s:ByteArray) (E:Int) (h:(s.size = 0 /\ E = 3) ∨ (9999 < s.size /\ E = 4)):Mak 37 #[.string s] (.tuple #[.agg Z9,.int .i64 E]):=by
 intro w
 have hr:Hid (HR w w.heap.size Z9 59 (w.alloc (.cells Z9 59))):=lH ⟨heap_alloc_new w _⟩
 have HS:Hid (Since w (w.alloc (.cells Z9 59))):=lH ((Since.refl w).alloc _)
 unfold Z9 at hr HS
 rcases h with ⟨h,rfl⟩ | ⟨h,rfl⟩
 · obtain rfl:s = ⟨#[]⟩:=by apply ba_ext; exact List.length_eq_zero_iff.1 h
   clear h
   go_enter Tryz.func37,Tryz.ntmps37
   go_wp2_with (refine wpList_store_row rfl 59 _ _ rfl w.heap.size (Z9) (by rfl) (by rfl) _ _ hr.out.row (rz9_info) rfl (z9_one) ?_)
   exact bodyPost_ret (v:=.tuple #[.agg Z9,.int .i64 3]) (results_cell_tmp2 Tryz.results37 _ _ _ _ _ _ _ _ rfl rfl (setRow_heap _ _ _ _ _ _ hr.out.row) Tryz.underlying59 rfl rz9_info) rfl ⟨rfl,below_setRow HS.out (Nat.le_refl _) _⟩
 · have b1:=some_bytes s (by omega)
   have b2:=some_bytes_f s (by omega)
   have t1:decide ((9999:Int) < (s.size:Int)) = true:=decide_eq_true (by omega)
   clear h
   go_enter Tryz.func37,Tryz.ntmps37
   go_wp2_with (refine wpList_store_row rfl 59 _ _ rfl w.heap.size (Z9) (by rfl) (by rfl) _ _ hr.out.row (rz9_info) rfl (z9_one) ?_)
   exact bodyPost_ret (v:=.tuple #[.agg Z9,.int .i64 4]) (results_cell_tmp2 Tryz.results37 _ _ _ _ _ _ _ _ rfl rfl (setRow_heap _ _ _ _ _ _ hr.out.row) Tryz.underlying59 rfl rz9_info) rfl ⟨rfl,below_setRow HS.out (Nat.le_refl _) _⟩
set_option maxHeartbeats 4000000 in
theorem rcut_dec (s:ByteArray) (h0:0 < s.size) (h9:s.size <= 9999) (n k:Int) (l u m v e:ByteArray) (E:Int) (_e1:(E == 0) = false) (e2:(E != 0) = true) (c1:Mak 77 #[.string s] (.tuple #[.agg #[.int .i64 n,.string l,.int .i64 k,.string u,.string m,.string v,.string e],.int .i64 E])):Mak 37 #[.string s] (.tuple #[.agg Z9,.int .i64 E]):=by
 intro w
 have hr:Hid (HR w w.heap.size Z9 59 (w.alloc (.cells Z9 59))):=lH ⟨heap_alloc_new w _⟩
 have HS:Hid (Since w (w.alloc (.cells Z9 59))):=lH ((Since.refl w).alloc _)
 unfold Z9 at hr HS
 have b1:=some_bytes s (by omega)
 have b2:=some_bytes_f s (by omega)
 have t1:decide ((9999:Int) < (s.size:Int)) = false:=decide_eq_false (by omega)
 go_enter Tryz.func37,Tryz.ntmps37
 go_wp2_with fail
 refine (c1.calls0) ?_
 intro w1 h1
 replace hr:=lH (hr.out.step (Up.up h1))
 replace HS:=lH (HS.out.step (Up.up h1))
 clear h1
 have hb:=lH (hb_new w1 KT trivial #[.int .i64 n,.string l,.int .i64 k,.string u,.string m,.string v,.string e] 82)
 replace hr:=lH (hr.out.step ((Below.refl _ w1).alloc (Nat.le_refl _) (.cells #[.int .i64 n,.string l,.int .i64 k,.string u,.string m,.string v,.string e] 82)))
 replace HS:=lH (HS.out.step hb.out.since)
 obtain ⟨_,m0,m1,m2,m3,m4,m5,m6⟩:=hb7 hb
 go_wp2_with (refine wpList_store_row rfl 59 _ _ rfl w.heap.size (Z9) (by rfl) (by rfl) _ _ hr.out.row (rz9_info) rfl (z9_one) ?_)
 exact bodyPost_ret (v:=.tuple #[.agg Z9,.int .i64 E]) (results_cell_tmp2 Tryz.results37 _ _ _ _ _ _ _ _ rfl rfl (setRow_heap _ _ _ _ _ _ hr.out.row) Tryz.underlying59 rfl rz9_info) rfl ⟨rfl,below_setRow HS.out (Nat.le_refl _) _⟩
set_option maxHeartbeats 4000000 in
theorem rcut_len (s:ByteArray) (h0:0 < s.size) (h9:s.size <= 9999) (n k:Int) (l u m v e:ByteArray) (hl:(n != (s.size:Int)) = true) (c1:Mak 77 #[.string s] (.tuple #[.agg #[.int .i64 n,.string l,.int .i64 k,.string u,.string m,.string v,.string e],.int .i64 0])):Mak 37 #[.string s] (.tuple #[.agg Z9,.int .i64 5]):=by
 intro w
 have hr:Hid (HR w w.heap.size Z9 59 (w.alloc (.cells Z9 59))):=lH ⟨heap_alloc_new w _⟩
 have HS:Hid (Since w (w.alloc (.cells Z9 59))):=lH ((Since.refl w).alloc _)
 unfold Z9 at hr HS
 have b1:=some_bytes s (by omega)
 have b2:=some_bytes_f s (by omega)
 have t1:decide ((9999:Int) < (s.size:Int)) = false:=decide_eq_false (by omega)
 go_enter Tryz.func37,Tryz.ntmps37
 go_wp2_with fail
 refine (c1.calls0) ?_
 intro w1 h1
 replace hr:=lH (hr.out.step (Up.up h1))
 replace HS:=lH (HS.out.step (Up.up h1))
 clear h1
 have hb:=lH (hb_new w1 KT trivial #[.int .i64 n,.string l,.int .i64 k,.string u,.string m,.string v,.string e] 82)
 replace hr:=lH (hr.out.step ((Below.refl _ w1).alloc (Nat.le_refl _) (.cells #[.int .i64 n,.string l,.int .i64 k,.string u,.string m,.string v,.string e] 82)))
 replace HS:=lH (HS.out.step hb.out.since)
 obtain ⟨_,m0,m1,m2,m3,m4,m5,m6⟩:=hb7 hb
 go_wp2_with (refine wpList_store_row rfl 59 _ _ rfl w.heap.size (Z9) (by rfl) (by rfl) _ _ hr.out.row (rz9_info) rfl (z9_one) ?_)
 exact bodyPost_ret (v:=.tuple #[.agg Z9,.int .i64 5]) (results_cell_tmp2 Tryz.results37 _ _ _ _ _ _ _ _ rfl rfl (setRow_heap _ _ _ _ _ _ hr.out.row) Tryz.underlying59 rfl rz9_info) rfl ⟨rfl,below_setRow HS.out (Nat.le_refl _) _⟩
set_option maxHeartbeats 4000000 in
theorem rcut_unp (s:ByteArray) (h0:0 < s.size) (h9:s.size <= 9999) (n k:Int) (l u m v e:ByteArray) (hl:(n != (s.size:Int)) = false) (i1:(16:Int) <= (s.size:Int)) (T:ByteArray) (hT:s.extract 16 s.size = T) (c1:Mak 77 #[.string s] (.tuple #[.agg #[.int .i64 n,.string l,.int .i64 k,.string u,.string m,.string v,.string e],.int .i64 0])) (O:List Opt.P2) (N E:Int) (_e1:(E == 0) = false) (e2:(E != 0) = true) (c2:Opt.MkO 78 #[.string T,.int .i64 k] O N E):Mak 37 #[.string s] (.tuple #[.agg Z9,.int .i64 E]):=by
 intro w
 subst hT
 have hr:Hid (HR w w.heap.size Z9 59 (w.alloc (.cells Z9 59))):=lH ⟨heap_alloc_new w _⟩
 have HS:Hid (Since w (w.alloc (.cells Z9 59))):=lH ((Since.refl w).alloc _)
 unfold Z9 at hr HS
 have b1:=some_bytes s (by omega)
 have b2:=some_bytes_f s (by omega)
 have t1:decide ((9999:Int) < (s.size:Int)) = false:=decide_eq_false (by omega)
 go_enter Tryz.func37,Tryz.ntmps37
 go_wp2_with fail
 refine (c1.calls0) ?_
 intro w1 h1
 replace hr:=lH (hr.out.step (Up.up h1))
 replace HS:=lH (HS.out.step (Up.up h1))
 clear h1
 have hb:=lH (hb_new w1 KT trivial #[.int .i64 n,.string l,.int .i64 k,.string u,.string m,.string v,.string e] 82)
 replace hr:=lH (hr.out.step ((Below.refl _ w1).alloc (Nat.le_refl _) (.cells #[.int .i64 n,.string l,.int .i64 k,.string u,.string m,.string v,.string e] 82)))
 replace HS:=lH (HS.out.step hb.out.since)
 obtain ⟨_,m0,m1,m2,m3,m4,m5,m6⟩:=hb7 hb
 go_wp2_with fail
 go_region_law (go_simp; go_at_call 78; refine c2.calls0 ?_; intro o w2 ho h2; replace hr:=lH (hr.out.step (by first | exact h2 | exact Since.step (Since.drew (Since.refl _)) h2)); replace hb:=lH (hb.out.step (by first | exact h2 | exact Since.step (Since.drew (Since.refl _)) h2)); replace HS:=lH (HS.out.step (by first | exact h2 | exact Since.step (Since.drew (Since.refl _)) h2)); have HO:=lH ho; clear ho h2)
 all_goals
   clear m0 m1 m2 m3 m4 m5 m6
   go_wp2_with (refine wpList_store_row rfl 59 _ _ rfl w.heap.size (Z9) (by rfl) (by rfl) _ _ hr.out.row (rz9_info) rfl (z9_one) ?_)
   exact bodyPost_ret (v:=.tuple #[.agg Z9,.int .i64 E]) (results_cell_tmp2 Tryz.results37 _ _ _ _ _ _ _ _ rfl rfl (setRow_heap _ _ _ _ _ _ hr.out.row) Tryz.underlying59 rfl rz9_info) rfl ⟨rfl,below_setRow HS.out (Nat.le_refl _) _⟩
set_option maxHeartbeats 4000000 in
theorem rcut_from (s:ByteArray) (h0:0 < s.size) (h9:s.size <= 9999) (n k:Int) (l u m v e:ByteArray) (hl:(n != (s.size:Int)) = false) (i1:(16:Int) <= (s.size:Int)) (T:ByteArray) (hT:s.extract 16 s.size = T) (c1:Mak 77 #[.string s] (.tuple #[.agg #[.int .i64 n,.string l,.int .i64 k,.string u,.string m,.string v,.string e],.int .i64 0])) (O:List Opt.P2) (N E:Int) (_e1:(E == 0) = false) (e2:(E != 0) = true) (c2:Opt.MkO 78 #[.string T,.int .i64 k] O N 0) (L:List A2) (c3:MkF 79 O L E):Mak 37 #[.string s] (.tuple #[.agg Z9,.int .i64 E]):=by
 intro w
 subst hT
 have hr:Hid (HR w w.heap.size Z9 59 (w.alloc (.cells Z9 59))):=lH ⟨heap_alloc_new w _⟩
 have HS:Hid (Since w (w.alloc (.cells Z9 59))):=lH ((Since.refl w).alloc _)
 unfold Z9 at hr HS
 have b1:=some_bytes s (by omega)
 have b2:=some_bytes_f s (by omega)
 have t1:decide ((9999:Int) < (s.size:Int)) = false:=decide_eq_false (by omega)
 go_enter Tryz.func37,Tryz.ntmps37
 go_wp2_with fail
 refine (c1.calls0) ?_
 intro w1 h1
 replace hr:=lH (hr.out.step (Up.up h1))
 replace HS:=lH (HS.out.step (Up.up h1))
 clear h1
 have hb:=lH (hb_new w1 KT trivial #[.int .i64 n,.string l,.int .i64 k,.string u,.string m,.string v,.string e] 82)
 replace hr:=lH (hr.out.step ((Below.refl _ w1).alloc (Nat.le_refl _) (.cells #[.int .i64 n,.string l,.int .i64 k,.string u,.string m,.string v,.string e] 82)))
 replace HS:=lH (HS.out.step hb.out.since)
 obtain ⟨_,m0,m1,m2,m3,m4,m5,m6⟩:=hb7 hb
 go_wp2_with fail
 go_region_law (go_simp; go_at_call 78; refine c2.calls0 ?_; intro o w2 ho h2; replace hr:=lH (hr.out.step (by first | exact h2 | exact Since.step (Since.drew (Since.refl _)) h2)); replace hb:=lH (hb.out.step (by first | exact h2 | exact Since.step (Since.drew (Since.refl _)) h2)); replace HS:=lH (HS.out.step (by first | exact h2 | exact Since.step (Since.drew (Since.refl _)) h2)); have HO:=lH ho; clear ho h2)
 all_goals
   clear m0 m1 m2 m3 m4 m5 m6
   go_wp2_with fail
   refine c3.calls0 HO.out ?_
   intro a w3 ha h3
   replace hr:=lH (hr.out.step h3)
   replace hb:=lH (hb.out.step h3)
   replace HS:=lH (HS.out.step h3)
   obtain ⟨A,d,hav,_⟩:=ha.slice
   subst hav
   have HA:=lH ha
   clear h3 ha HO
   go_wp2_with (refine wpList_store_row rfl 59 _ _ rfl w.heap.size (Z9) (by rfl) (by rfl) _ _ hr.out.row (rz9_info) rfl (z9_one) ?_)
   exact bodyPost_ret (v:=.tuple #[.agg Z9,.int .i64 E]) (results_cell_tmp2 Tryz.results37 _ _ _ _ _ _ _ _ rfl rfl (setRow_heap _ _ _ _ _ _ hr.out.row) Tryz.underlying59 rfl rz9_info) rfl ⟨rfl,below_setRow HS.out (Nat.le_refl _) _⟩
set_option maxHeartbeats 4000000 in
theorem rcut_un (s:ByteArray) (h0:0 < s.size) (h9:s.size <= 9999) (n k:Int) (l u m v e:ByteArray) (hl:(n != (s.size:Int)) = false) (i1:(16:Int) <= (s.size:Int)) (T:ByteArray) (hT:s.extract 16 s.size = T) (c1:Mak 77 #[.string s] (.tuple #[.agg #[.int .i64 n,.string l,.int .i64 k,.string u,.string m,.string v,.string e],.int .i64 0])) (O:List Opt.P2) (N D:Nat) (hD:(16:Int) + (N:Int) = (D:Int)) (i2:(0:Int) <= (D:Int)) (i3:(D:Int) <= (s.size:Int)) (c2:Opt.MkO 78 #[.string T,.int .i64 k] O (N:Int) 0) (L:List A2) (c3:MkF 79 O L 0) (R S:ByteArray) (hR:s.extract D s.size = R) (B:Bool) (hB:B = false ∨ S.size < 32 ∨ S.size % 16 ≠ 0) (c4:Mak 80 #[.string R] (.tuple #[.string S,.bool B])):Mak 37 #[.string s] (.tuple #[.agg Z9,.int .i64 5]):=by
 intro w
 subst hT
 cases B with
 | false =>
   clear hB
   have hr:Hid (HR w w.heap.size Z9 59 (w.alloc (.cells Z9 59))):=lH ⟨heap_alloc_new w _⟩
   have HS:Hid (Since w (w.alloc (.cells Z9 59))):=lH ((Since.refl w).alloc _)
   unfold Z9 at hr HS
   have b1:=some_bytes s (by omega)
   have b2:=some_bytes_f s (by omega)
   have t1:decide ((9999:Int) < (s.size:Int)) = false:=decide_eq_false (by omega)
   go_enter Tryz.func37,Tryz.ntmps37
   go_wp2_with fail
   refine (c1.calls0) ?_
   intro w1 h1
   replace hr:=lH (hr.out.step (Up.up h1))
   replace HS:=lH (HS.out.step (Up.up h1))
   clear h1
   have hb:=lH (hb_new w1 KT trivial #[.int .i64 n,.string l,.int .i64 k,.string u,.string m,.string v,.string e] 82)
   replace hr:=lH (hr.out.step ((Below.refl _ w1).alloc (Nat.le_refl _) (.cells #[.int .i64 n,.string l,.int .i64 k,.string u,.string m,.string v,.string e] 82)))
   replace HS:=lH (HS.out.step hb.out.since)
   obtain ⟨_,m0,m1,m2,m3,m4,m5,m6⟩:=hb7 hb
   go_wp2_with fail
   go_region_law (go_simp; go_at_call 78; refine c2.calls0 ?_; intro o w2 ho h2; replace hr:=lH (hr.out.step (by first | exact h2 | exact Since.step (Since.drew (Since.refl _)) h2)); replace hb:=lH (hb.out.step (by first | exact h2 | exact Since.step (Since.drew (Since.refl _)) h2)); replace HS:=lH (HS.out.step (by first | exact h2 | exact Since.step (Since.drew (Since.refl _)) h2)); have HO:=lH ho; clear ho h2)
   all_goals
     clear m0 m1 m2 m3 m4 m5 m6
     go_wp2_with fail
     refine c3.calls0 HO.out ?_
     intro a w3 ha h3
     replace hr:=lH (hr.out.step h3)
     replace hb:=lH (hb.out.step h3)
     replace HS:=lH (HS.out.step h3)
     obtain ⟨A,d,hav,_⟩:=ha.slice
     subst hav
     have HA:=lH ha
     clear h3 ha HO
     go_wp2_with fail
     refine c4.calls0 ?_
     intro w4 h4
     replace hr:=lH (hr.out.step h4)
     replace hb:=lH (hb.out.step h4)
     replace HS:=lH (HS.out.step h4)
     replace HA:=lH (HA.out.since h4)
     clear h4
     go_wp2_with (refine wpList_store_row rfl 59 _ _ rfl w.heap.size (Z9) (by rfl) (by rfl) _ _ hr.out.row (rz9_info) rfl (z9_one) ?_)
     exact bodyPost_ret (v:=.tuple #[.agg Z9,.int .i64 5]) (results_cell_tmp2 Tryz.results37 _ _ _ _ _ _ _ _ rfl rfl (setRow_heap _ _ _ _ _ _ hr.out.row) Tryz.underlying59 rfl rz9_info) rfl ⟨rfl,below_setRow HS.out (Nat.le_refl _) _⟩
 | true =>
   by_cases h32:S.size < 32
   · have t2:decide ((S.size:Int) < 32) = true:=decide_eq_true (by omega)
     clear hB h32
     have hr:Hid (HR w w.heap.size Z9 59 (w.alloc (.cells Z9 59))):=lH ⟨heap_alloc_new w _⟩
     have HS:Hid (Since w (w.alloc (.cells Z9 59))):=lH ((Since.refl w).alloc _)
     unfold Z9 at hr HS
     have b1:=some_bytes s (by omega)
     have b2:=some_bytes_f s (by omega)
     have t1:decide ((9999:Int) < (s.size:Int)) = false:=decide_eq_false (by omega)
     go_enter Tryz.func37,Tryz.ntmps37
     go_wp2_with fail
     refine (c1.calls0) ?_
     intro w1 h1
     replace hr:=lH (hr.out.step (Up.up h1))
     replace HS:=lH (HS.out.step (Up.up h1))
     clear h1
     have hb:=lH (hb_new w1 KT trivial #[.int .i64 n,.string l,.int .i64 k,.string u,.string m,.string v,.string e] 82)
     replace hr:=lH (hr.out.step ((Below.refl _ w1).alloc (Nat.le_refl _) (.cells #[.int .i64 n,.string l,.int .i64 k,.string u,.string m,.string v,.string e] 82)))
     replace HS:=lH (HS.out.step hb.out.since)
     obtain ⟨_,m0,m1,m2,m3,m4,m5,m6⟩:=hb7 hb
     go_wp2_with fail
     go_region_law (go_simp; go_at_call 78; refine c2.calls0 ?_; intro o w2 ho h2; replace hr:=lH (hr.out.step (by first | exact h2 | exact Since.step (Since.drew (Since.refl _)) h2)); replace hb:=lH (hb.out.step (by first | exact h2 | exact Since.step (Since.drew (Since.refl _)) h2)); replace HS:=lH (HS.out.step (by first | exact h2 | exact Since.step (Since.drew (Since.refl _)) h2)); have HO:=lH ho; clear ho h2)
     all_goals
       clear m0 m1 m2 m3 m4 m5 m6
       go_wp2_with fail
       refine c3.calls0 HO.out ?_
       intro a w3 ha h3
       replace hr:=lH (hr.out.step h3)
       replace hb:=lH (hb.out.step h3)
       replace HS:=lH (HS.out.step h3)
       obtain ⟨A,d,hav,_⟩:=ha.slice
       subst hav
       have HA:=lH ha
       clear h3 ha HO
       go_wp2_with fail
       refine c4.calls0 ?_
       intro w4 h4
       replace hr:=lH (hr.out.step h4)
       replace hb:=lH (hb.out.step h4)
       replace HS:=lH (HS.out.step h4)
       replace HA:=lH (HA.out.since h4)
       clear h4
       go_wp2_with (refine wpList_store_row rfl 59 _ _ rfl w.heap.size (Z9) (by rfl) (by rfl) _ _ hr.out.row (rz9_info) rfl (z9_one) ?_)
       exact bodyPost_ret (v:=.tuple #[.agg Z9,.int .i64 5]) (results_cell_tmp2 Tryz.results37 _ _ _ _ _ _ _ _ rfl rfl (setRow_heap _ _ _ _ _ _ hr.out.row) Tryz.underlying59 rfl rz9_info) rfl ⟨rfl,below_setRow HS.out (Nat.le_refl _) _⟩
   · have t2:decide ((S.size:Int) < 32) = false:=decide_eq_false (by omega)
     have hm:S.size % 16 ≠ 0:=by rcases hB with h | h | h; cases h; omega; exact h
     have t3:((S.size:Int) % 16 != 0) = true:=bne_iff_ne.2 (by omega)
     have t4:((S.size:Int).tmod 16 != 0) = true:=bne_iff_ne.2 (by rw [Int.tmod_eq_emod_of_nonneg (by omega)]; omega)
     clear hB h32 hm
     have hr:Hid (HR w w.heap.size Z9 59 (w.alloc (.cells Z9 59))):=lH ⟨heap_alloc_new w _⟩
     have HS:Hid (Since w (w.alloc (.cells Z9 59))):=lH ((Since.refl w).alloc _)
     unfold Z9 at hr HS
     have b1:=some_bytes s (by omega)
     have b2:=some_bytes_f s (by omega)
     have t1:decide ((9999:Int) < (s.size:Int)) = false:=decide_eq_false (by omega)
     go_enter Tryz.func37,Tryz.ntmps37
     go_wp2_with fail
     refine (c1.calls0) ?_
     intro w1 h1
     replace hr:=lH (hr.out.step (Up.up h1))
     replace HS:=lH (HS.out.step (Up.up h1))
     clear h1
     have hb:=lH (hb_new w1 KT trivial #[.int .i64 n,.string l,.int .i64 k,.string u,.string m,.string v,.string e] 82)
     replace hr:=lH (hr.out.step ((Below.refl _ w1).alloc (Nat.le_refl _) (.cells #[.int .i64 n,.string l,.int .i64 k,.string u,.string m,.string v,.string e] 82)))
     replace HS:=lH (HS.out.step hb.out.since)
     obtain ⟨_,m0,m1,m2,m3,m4,m5,m6⟩:=hb7 hb
     go_wp2_with fail
     go_region_law (go_simp; go_at_call 78; refine c2.calls0 ?_; intro o w2 ho h2; replace hr:=lH (hr.out.step (by first | exact h2 | exact Since.step (Since.drew (Since.refl _)) h2)); replace hb:=lH (hb.out.step (by first | exact h2 | exact Since.step (Since.drew (Since.refl _)) h2)); replace HS:=lH (HS.out.step (by first | exact h2 | exact Since.step (Since.drew (Since.refl _)) h2)); have HO:=lH ho; clear ho h2)
     all_goals
       clear m0 m1 m2 m3 m4 m5 m6
       go_wp2_with fail
       refine c3.calls0 HO.out ?_
       intro a w3 ha h3
       replace hr:=lH (hr.out.step h3)
       replace hb:=lH (hb.out.step h3)
       replace HS:=lH (HS.out.step h3)
       obtain ⟨A,d,hav,_⟩:=ha.slice
       subst hav
       have HA:=lH ha
       clear h3 ha HO
       go_wp2_with fail
       refine c4.calls0 ?_
       intro w4 h4
       replace hr:=lH (hr.out.step h4)
       replace hb:=lH (hb.out.step h4)
       replace HS:=lH (HS.out.step h4)
       replace HA:=lH (HA.out.since h4)
       clear h4
       go_wp2_with (refine wpList_store_row rfl 59 _ _ rfl w.heap.size (Z9) (by rfl) (by rfl) _ _ hr.out.row (rz9_info) rfl (z9_one) ?_)
       exact bodyPost_ret (v:=.tuple #[.agg Z9,.int .i64 5]) (results_cell_tmp2 Tryz.results37 _ _ _ _ _ _ _ _ rfl rfl (setRow_heap _ _ _ _ _ _ hr.out.row) Tryz.underlying59 rfl rz9_info) rfl ⟨rfl,below_setRow HS.out (Nat.le_refl _) _⟩
theorem cutK_b (s:ByteArray):0 <= cutK s /\ cutK s <= 9223372036854775807:=by
 have hl:(s.extract 12 14).data.toList.length <= 2:=by
   show (s.extract 12 14).size <= 2
   rw [ByteArray.size_extract]; omega
 unfold cutK
 generalize (s.extract 12 14).data.toList = t at hl ⊢
 match t,hl with
 | [],_ => decide
 | [a],_ => have:=a.toNat_lt; unfold Dig.numD; simp only [List.foldl]; omega
 | [a,b],_ => have:=a.toNat_lt; have:=b.toNat_lt; unfold Dig.numD; simp only [List.foldl]; omega
def CutR (s l u m v e:ByteArray) (L:List A2) (P C G:ByteArray):Prop:=∀ w,Calls Tryz.prog 37 #[.string s] w fun x w' => ∃ a,x = .returned (.tuple #[.agg (C9 l u m v e a P C G),.int .i64 0]) /\ AttsS w' a L /\ Below w.heap.size w w' /\ Fresh w.heap.size a
set_option maxHeartbeats 4000000 in
theorem rcut_ok (s:ByteArray) (h0:0 < s.size) (h9:s.size <= 9999) (n k:Int) (l u m v e:ByteArray) (hl:(n != (s.size:Int)) = false) (i1:(16:Int) <= (s.size:Int)) (T:ByteArray) (hT:s.extract 16 s.size = T) (c1:Mak 77 #[.string s] (.tuple #[.agg #[.int .i64 n,.string l,.int .i64 k,.string u,.string m,.string v,.string e],.int .i64 0])) (O:List Opt.P2) (N D:Nat) (hD:(16:Int) + (N:Int) = (D:Int)) (i2:(0:Int) <= (D:Int)) (i3:(D:Int) <= (s.size:Int)) (c2:Opt.MkO 78 #[.string T,.int .i64 k] O (N:Int) 0) (L:List A2) (c3:MkF 79 O L 0) (P R S C G:ByteArray) (hP:s.extract 0 D = P) (hR:s.extract D s.size = R) (hz:S.size <= 1000000) (h32:32 <= S.size) (h16:S.size % 16 = 0) (M:Nat) (hM:M + 16 = S.size) (hC:S.extract 0 M = C) (hG:S.extract M S.size = G) (c4:Mak 80 #[.string R] (.tuple #[.string S,.bool true])):CutR s l u m v e L P C G:=by
 intro w
 have t2:decide ((S.size:Int) < 32) = false:=decide_eq_false (by omega)
 have t3:((S.size:Int) % 16 != 0) = false:=bne_eq_false_iff_eq.2 (by omega)
 have t4:((S.size:Int).tmod 16 != 0) = false:=bne_eq_false_iff_eq.2 (by rw [Int.tmod_eq_emod_of_nonneg (by omega)]; omega)
 have q1:IntKind.i64.wrap ((S.size:Int) - 16) = (M:Int):=by rw [IntWalk.i64_in _ (by omega)]; omega
 have q2:(S.size:Int) - 16 = (M:Int):=by omega
 have q0:IntKind.i64.wrap (D:Int) = (D:Int):=IntWalk.i64_in _ (by omega)
 have q3:IntKind.i64.wrap (M:Int) = (M:Int):=IntWalk.i64_in _ (by omega)
 have i4:(0:Int) <= (M:Int):=by omega
 have i5:(M:Int) <= (S.size:Int):=by omega
 subst hT
 clear h16 hM
 have hr:Hid (HR w w.heap.size Z9 59 (w.alloc (.cells Z9 59))):=lH ⟨heap_alloc_new w _⟩
 have HS:Hid (Since w (w.alloc (.cells Z9 59))):=lH ((Since.refl w).alloc _)
 unfold Z9 at hr HS
 have b1:=some_bytes s (by omega)
 have b2:=some_bytes_f s (by omega)
 have t1:decide ((9999:Int) < (s.size:Int)) = false:=decide_eq_false (by omega)
 go_enter Tryz.func37,Tryz.ntmps37
 go_wp2_with fail
 refine (c1.calls0) ?_
 intro w1 h1
 replace hr:=lH (hr.out.step (Up.up h1))
 replace HS:=lH (HS.out.step (Up.up h1))
 clear h1
 have hb:=lH (hb_new w1 KT trivial #[.int .i64 n,.string l,.int .i64 k,.string u,.string m,.string v,.string e] 82)
 replace hr:=lH (hr.out.step ((Below.refl _ w1).alloc (Nat.le_refl _) (.cells #[.int .i64 n,.string l,.int .i64 k,.string u,.string m,.string v,.string e] 82)))
 replace HS:=lH (HS.out.step hb.out.since)
 obtain ⟨_,m0,m1,m2,m3,m4,m5,m6⟩:=hb7 hb
 go_wp2_with fail
 go_region_law (go_simp; go_at_call 78; refine c2.calls0 ?_; intro o w2 ho h2; replace hr:=lH (hr.out.step (by first | exact h2 | exact Since.step (Since.drew (Since.refl _)) h2)); replace hb:=lH (hb.out.step (by first | exact h2 | exact Since.step (Since.drew (Since.refl _)) h2)); replace HS:=lH (HS.out.step (by first | exact h2 | exact Since.step (Since.drew (Since.refl _)) h2)); have HO:=lH ho; clear ho h2)
 all_goals
   clear m0 m1 m2 m3 m4 m5 m6
   go_wp2_with fail
   refine c3.calls1 HO.out ?_
   intro a w3 ha h3
   have hne:Hid (∀ b,a.blockOf = some b -> b ≠ w.heap.size):=lH (fresh_ne ha.2 (Array.getElem?_eq_some_iff.1 hr.out.row).1)
   have hfr:=lH (show Fresh w.heap.size a from fun A' l' c' e' => Nat.le_trans (Nat.le_of_lt (Array.getElem?_eq_some_iff.1 hr.out.row).1) (ha.2 A' l' c' e'))
   replace hr:=lH (hr.out.step h3)
   replace hb:=lH (hb.out.step h3)
   replace HS:=lH (HS.out.step h3)
   have hA0:=ha.1
   obtain ⟨A,d,hav,_⟩:=hA0.slice
   subst hav
   have HA:=lH hA0
   clear h3 ha HO hA0
   go_wp2_with fail
   refine c4.calls0 ?_
   intro w4 h4
   replace hr:=lH (hr.out.step h4)
   replace hb:=lH (hb.out.step h4)
   replace HS:=lH (HS.out.step h4)
   replace HA:=lH (HA.out.since h4)
   clear h4
   obtain ⟨_,m0,m1,m2,m3,m4,m5,m6⟩:=hb7 hb
   go_wp2_with fail
   go_still_tail 20,(by kernel_rfl)
   refine wpList_store_row (w:=w4.drew) rfl 59 _ _ rfl w.heap.size (C9 l u m v e (.slice A L.length d) P C G) (by rfl) (by rfl) _ _ hr.out.row (rc9_info _ _ _ _ _ _ _ _ _) rfl (c9_one _ _ _ _ _ _ _ _ _ _ _) ?_
   go_wp2_with fail
   exact bodyPost_ret (v:=.tuple #[.agg (C9 l u m v e (.slice A L.length d) P C G),.int .i64 0]) (results_cell_tmp2 Tryz.results37 _ _ _ _ _ _ _ _ rfl rfl (setRow_heap w4.drew _ _ _ _ _ hr.out.row) Tryz.underlying59 rfl (rc9_info _ _ _ _ _ _ _ _ _)) rfl ⟨_,rfl,far_rows (HA.out.since (Since.drew (Since.refl _))) w.heap.size hne.out _,below_setRow (Since.drew HS.out) (Nat.le_refl _) _,hfr.out⟩
theorem rcut_bad (s:ByteArray) (hm:s.size <= 60000) (h:cutE s ≠ 0):Mak 37 #[.string s] (.tuple #[.agg Z9,.int .i64 (cutE s)]):=by
 by_cases h0:s.size = 0
 · have e:cutE s = 3:=by have e2:begE s = 3:=if_pos h0; unfold cutE; rw [e2,if_pos (by decide)]
   rw [e]; exact rcut_early s 3 (Or.inl ⟨h0,rfl⟩)
 by_cases h9:9999 < s.size
 · have e:cutE s = 4:=by have e2:begE s = 4:=by { unfold begE; rw [if_neg h0,if_pos h9] }; unfold cutE; rw [e2,if_pos (by decide)]
   rw [e]; exact rcut_early s 4 (Or.inr ⟨h9,rfl⟩)
 have c1:=rdec_any s (by omega)
 rcases dec_cases s with ⟨hE,hV⟩ | ⟨hE,hF,hk⟩
 · have e:begE s = Header.decE s:=by unfold begE; rw [if_neg h0,if_neg h9,if_pos hE]
   have e2:cutE s = Header.decE s:=by unfold cutE; rw [e,if_pos hE]
   rw [e2]
   rw [hV] at c1
   exact rcut_dec s (by omega) (by omega) 0 0 _ _ _ _ _ _ (beq_eq_false_iff_ne.2 hE) (bne_iff_ne.2 hE) c1
 · have hv:Header.decV s = C7 (Dig.numD (s.extract 1 5).data.toList:Int) (cutK s) (s.extract 7 8) (s.extract 5 7) (s.extract 8 9) (s.extract 9 11) (s.extract 11 12):=if_pos ⟨hF,hk⟩
   rw [hv,hE] at c1
   by_cases hn:Dig.numD (s.extract 1 5).data.toList = s.size
   case neg =>
     have e:begE s = 5:=by unfold begE; rw [if_neg h0,if_neg h9,if_neg (fun h => h hE),if_pos hn]
     have e2:cutE s = 5:=by unfold cutE; rw [e,if_pos (by decide)]
     rw [e2]
     exact rcut_len s (by omega) (by omega) _ _ _ _ _ _ _ (bne_iff_ne.2 (by omega)) c1
   have hb:begE s = 0:=by unfold begE; rw [if_neg h0,if_neg h9,if_neg (fun h => h hE),if_neg (fun h => h hn)]
   have h16:16 <= s.size:=(beg_ok0 s hb).1
   have hl:(((Dig.numD (s.extract 1 5).data.toList:Nat):Int) != (s.size:Int)) = false:=bne_eq_false_iff_eq.2 (by omega)
   unfold cutE at h ⊢
   rw [if_neg (fun h2 => h2 hb)] at h ⊢
   have hTs:(cutT s).size <= 9999:=by unfold cutT; rw [ByteArray.size_extract]; omega
   have hKb:=cutK_b s
   have c2:=Opt.runpack_any (cutT s) hTs (cutK s) (by omega)
   by_cases hu:Opt.unpE (cutT s) (cutK s) = 0
   case neg =>
     rw [if_pos hu] at h ⊢
     exact rcut_unp s (by omega) (by omega) _ _ _ _ _ _ _ hl (by omega) (cutT s) rfl c1 _ _ _ (beq_eq_false_iff_ne.2 hu) (bne_iff_ne.2 hu) c2
   rw [if_neg (fun h2 => h2 hu)] at h ⊢
   obtain ⟨u1,u2,u3⟩:=unp_bounds _ _ hu
   rw [hu] at c2
   have c3:=rfrom_mk (cutO s) (fun p hp => by have:=u3 p hp; omega) rdecode_mk
   by_cases hf:fE (cutO s) = 0
   case neg =>
     rw [if_pos hf] at h ⊢
     exact rcut_from s (by omega) (by omega) _ _ _ _ _ _ _ hl (by omega) (cutT s) rfl c1 _ _ _ (beq_eq_false_iff_ne.2 hf) (bne_iff_ne.2 hf) c2 _ c3
   rw [if_neg (fun h2 => h2 hf)] at h ⊢
   rw [hf] at c3
   have hN:Opt.unpN (cutT s) (cutK s) = ((Opt.unpN (cutT s) (cutK s)).toNat:Int):=by omega
   have hTz:(cutT s).size = s.size - 16:=by unfold cutT; rw [ByteArray.size_extract]; omega
   rw [hN] at c2
   have c4:=runhex_all (s.extract (cutD s) s.size) (by rw [ByteArray.size_extract]; omega)
   have hsel:okT (cutR s) = false:=by
     unfold selE at h
     cases hq:okT (cutR s) with
     | false => rfl
     | true => rw [hq,if_pos rfl] at h; exact absurd rfl h
   have e5:selE (cutR s) = 5:=by unfold selE; rw [hsel,if_neg (by decide)]
   rw [e5]
   refine rcut_un s (by omega) (by omega) _ _ _ _ _ _ _ hl (by omega) (cutT s) rfl c1 _ (Opt.unpN (cutT s) (cutK s)).toNat (cutD s) (by unfold cutD; omega) (by omega) (by unfold cutD; omega) c2 _ c3 _ _ rfl _ ?_ c4
   cases hq:Dig.unB (s.extract (cutD s) s.size).data.toList with
   | false => exact Or.inl rfl
   | true =>
     right
     apply Classical.byContradiction
     intro hh
     have:okT (cutR s) = true:=by
       unfold okT cutR
       rw [hq,decide_eq_true (by omega),decide_eq_true (by omega)]; rfl
     rw [hsel] at this; cases this
theorem rcut_good (s:ByteArray) (h:cutE s = 0):CutR s (s.extract 7 8) (s.extract 5 7) (s.extract 8 9) (s.extract 9 11) (s.extract 11 12) (fL (cutO s)) (s.extract 0 (cutD s)) (selC (cutR s)) (selT (cutR s)):=by
 obtain ⟨h1,h2,h3,h4⟩:=cut_facts s h
 obtain ⟨d1,d2,d3,d4⟩:=cut_sizes s h
 obtain ⟨h16,h9,hv,hF,hk,hn⟩:=beg_ok0 s h1
 obtain ⟨u1,u2,u3⟩:=unp_bounds _ _ h2
 have c1:=rdec_any s (by omega)
 rcases dec_cases s with ⟨hE,hV⟩ | ⟨hE,_,_⟩
 · exfalso; rw [hV] at hv; unfold begE at h1; rw [if_neg (by omega),if_neg (by omega),if_pos hE] at h1; exact hE h1
 rw [hv,hE] at c1
 have hKb:=cutK_b s
 have hTz:(cutT s).size = s.size - 16:=by unfold cutT; rw [ByteArray.size_extract]; omega
 have c2:=Opt.runpack_any (cutT s) (by omega) (cutK s) (by omega)
 rw [h2,d4] at c2
 have c3:=rfrom_mk (cutO s) (fun p hp => by have:=u3 p hp; omega) rdecode_mk
 rw [h3] at c3
 have c4:=runhex_all (s.extract (cutD s) s.size) (by rw [ByteArray.size_extract]; omega)
 have hsel:okT (cutR s) = true:=by
   unfold selE at h4
   cases hq:okT (cutR s) with
   | true => rfl
   | false => rw [hq,if_neg (by decide)] at h4; cases h4
 have hC:selC (cutR s) = (Dig.unS (cutR s)).extract 0 ((Dig.unS (cutR s)).size - 16):=by unfold selC; rw [if_pos hsel]
 have hG:selT (cutR s) = (Dig.unS (cutR s)).extract ((Dig.unS (cutR s)).size - 16) (Dig.unS (cutR s)).size:=by unfold selT; rw [if_pos hsel]
 unfold okT at hsel
 simp only [Bool.and_eq_true,decide_eq_true_eq] at hsel
 obtain ⟨⟨g1,g2⟩,g3⟩:=hsel
 have g1':Dig.unB (s.extract (cutD s) s.size).data.toList = true:=g1
 rw [g1'] at c4
 have hUz:(Dig.unS (cutR s)).size <= 1000000:=by
   have hl:=unS_le (cutR s)
   have hl2:(cutR s).length = (s.extract (cutD s) s.size).size:=rfl
   rw [ByteArray.size_extract] at hl2
   omega
 rw [hC,hG]
 exact rcut_ok s (by omega) (by omega) _ _ _ _ _ _ _ (bne_eq_false_iff_eq.2 (by omega)) (by omega) (cutT s) rfl c1 _ (Opt.unpN (cutT s) (cutK s)).toNat (cutD s) (by unfold cutD; omega) (by omega) (by unfold cutD; omega) c2 _ c3 _ _ (Dig.unS (cutR s)) _ _ rfl rfl hUz g2 g3 ((Dig.unS (cutR s)).size - 16) (by omega) rfl rfl c4
end Frame
end Go.Proofs.YtddlaafpianjbaaGreatDoor
